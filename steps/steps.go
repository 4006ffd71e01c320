// Package steps does what is done one behind the other.
package steps

import "tributary/api"

// Do does steps until one is refused, and answers what that one said.
func Do(steps ...func() api.Errno) api.Errno {
	for _, step := range steps {
		if e := step(); e != api.OK {
			return e
		}
	}
	return api.OK
}
