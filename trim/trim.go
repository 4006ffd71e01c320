// Package trim reads files of frames, the ends of which may have broken off.
package trim

import (
	"tributary/api"
	"tributary/files"
	"tributary/frame"
)

// Frames answers the bodies of the frames that stand in a file of a disk, and cuts off what stands behind them.
func Frames(d *files.Disk, name string) ([][]byte, api.Errno) {
	b, e := d.Read(name)
	if e != api.OK {
		return nil, e
	}
	bodies, n := frame.Scan(b)
	if n < len(b) {
		e = d.Cut(name, n)
	}
	if e != api.OK {
		return nil, e
	}
	return bodies, api.OK
}
