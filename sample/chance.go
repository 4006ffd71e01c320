package sample

// Chance is a row of numbers that is always the same from the same beginning on.
type Chance uint64

// Below answers the next number, of 0 to n-1.
func (c *Chance) Below(n int) int {
	*c = *c*6364136223846793005 + 1442695040888963407
	return int(uint64(*c)>>33) % n
}
