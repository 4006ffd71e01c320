package files

import "tributary/api"

// file is bytes, of which the first ones, so many, are sure.
type file struct {
	bytes []byte
	sure  int
}

// mayName tells whether a file may have the name.
func mayName(name string) bool {
	return len(name) >= 1 && len(name) <= api.MaxTitle
}

// cut leaves the first n bytes.
func (f *file) cut(n int) {
	f.bytes = f.bytes[:n]
	f.sure = min(f.sure, n)
}

// crash leaves the sure bytes and n of those behind them, as far as there are so many; what is left is sure.
func (f *file) crash(n int) {
	unsure := len(f.bytes) - f.sure
	f.cut(f.sure + min(max(n, 0), unsure))
	f.sure = len(f.bytes)
}
