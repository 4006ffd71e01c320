package trim_test

import (
	"testing"

	"tributary/api"
	"tributary/files"
	"tributary/frame"
	"tributary/trim"
)

// framed is the frames of bodies, one behind the other.
func framed(bodies ...string) string {
	var b []byte
	for _, body := range bodies {
		b, _ = frame.Put(b, []byte(body))
	}
	return string(b)
}

func TestFrames(t *testing.T) {
	for _, bodies := range [][]string{nil, {"a"}, {"", "bc", "d"}} {
		for _, tail := range []string{"", "\x00", framed("torn")[:8], "\x05" + framed("a")} {
			d, stand := files.New(), framed(bodies...)
			d.Append("f", []byte(stand+tail))
			d.Append("g", []byte("other"))
			got, e := trim.Frames(d, "f")
			if e != api.OK || len(got) != len(bodies) {
				t.Fatalf("of %q and %q: %q, %d", bodies, tail, got, e)
			}
			for i, body := range bodies {
				if string(got[i]) != body {
					t.Errorf("body %d of %q is %q", i, bodies, got[i])
				}
			}
			if b, _ := d.Read("f"); string(b) != stand {
				t.Errorf("left is %q, want %q", b, stand)
			}
			if b, _ := d.Read("g"); string(b) != "other" {
				t.Errorf("the other file is %q", b)
			}
		}
	}
}

func TestFramesRefused(t *testing.T) {
	d := files.New()
	d.Append("whole", []byte(framed("a")))
	d.Append("torn", []byte(framed("a")+"x"))
	if b, e := trim.Frames(d, "none"); e != api.ErrNone || b != nil {
		t.Errorf("of no file: %q, %d", b, e)
	}
	d.Stop(0, 0)
	// Where nothing is to be cut off nothing is changed.
	if b, e := trim.Frames(d, "whole"); e != api.OK || len(b) != 1 {
		t.Errorf("of a whole file: %q, %d", b, e)
	}
	if b, e := trim.Frames(d, "torn"); e != api.ErrOff || b != nil {
		t.Errorf("the power goes: %q, %d", b, e)
	}
	if b, e := trim.Frames(d, "whole"); e != api.ErrOff || b != nil {
		t.Errorf("the power is gone: %q, %d", b, e)
	}
}
