package vote

import (
	"tributary/api"
	"tributary/files"
	"tributary/steps"
	"tributary/trim"
)

// file is a file of frames, by its name on a disk.
type file struct {
	disk *files.Disk
	name string
}

// draft answers the file that is made whole ahead of taking f's place.
func (f file) draft() file { return file{f.disk, f.name + ".new"} }

// put answers the step that puts b behind the file.
func (f file) put(b []byte) func() api.Errno {
	return func() api.Errno { return f.disk.Append(f.name, b) }
}

// becomes answers the step that puts the file in the place of another one.
func (f file) becomes(other file) func() api.Errno {
	return func() api.Errno { return f.disk.Rename(f.name, other.name) }
}

func (f file) sync() api.Errno { return f.disk.Sync(f.name) }

// remove removes the file, if it is there.
func (f file) remove() api.Errno {
	if e := f.disk.Remove(f.name); e != api.ErrNone {
		return e
	}
	return api.OK
}

// replace makes the file anew of b: a crash leaves the old one or the new one.
func (f file) replace(b []byte) api.Errno {
	draft := f.draft()
	return steps.Do(draft.remove, draft.put(b), draft.sync, draft.becomes(f))
}

// trim answers the bodies of the frames that stand in the file, if it is there, and cuts off what stands behind them.
func (f file) trim() ([][]byte, api.Errno) {
	bodies, e := trim.Frames(f.disk, f.name)
	if e == api.ErrNone {
		return nil, api.OK
	}
	return bodies, e
}
