package steps_test

import (
	"slices"
	"testing"

	"tributary/api"
	"tributary/steps"
)

func TestDo(t *testing.T) {
	for _, c := range []struct{ say, done []api.Errno }{
		{nil, nil},
		{[]api.Errno{api.OK}, []api.Errno{api.OK}},
		{[]api.Errno{api.OK, api.OK, api.OK}, []api.Errno{api.OK, api.OK, api.OK}},
		{[]api.Errno{api.ErrOff, api.OK}, []api.Errno{api.ErrOff}},
		{[]api.Errno{api.OK, api.ErrFull, api.ErrOff, api.OK}, []api.Errno{api.OK, api.ErrFull}},
	} {
		var row []func() api.Errno
		var done []api.Errno
		for _, e := range c.say {
			row = append(row, func() api.Errno {
				done = append(done, e)
				return e
			})
		}
		want := api.OK
		if len(c.done) > 0 {
			want = c.done[len(c.done)-1]
		}
		if got := steps.Do(row...); got != want || !slices.Equal(done, c.done) {
			t.Errorf("of steps that say %d were done %d, which said %d", c.say, done, got)
		}
	}
}
