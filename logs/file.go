package logs

import (
	"errors"

	"flowkeeper/api"
)

// names of the files: of the one without a base, and of two with one.
var names = [...]string{"log", "log0", "log1"}

// other: the file for a base, when records stand in that one.
func other(at int) int {
	if last := len(names) - 1; at != last {
		return last
	}
	return at - 1
}

// file is what one of the files has: which; a base, but for the first; and frames behind it.
type file struct {
	at     int
	base   []byte
	frames []byte
}

// readLast: the last of the files that is there. One of which the base is not whole is not: a fall has cut it off, ahead of anything that would have come behind it.
func readLast(d api.Disk) (file, error) {
	for at := len(names) - 1; at > 0; at-- {
		b, err := read(d, names[at])
		if err != nil {
			return file{}, err
		}
		if base, length, whole := cutFrame(b); whole {
			return file{at, base, b[length:]}, nil
		}
	}
	b, err := read(d, names[0])
	return file{frames: b}, err
}

// read: what a file has; of none it is nothing.
func read(d api.Disk, name string) ([]byte, error) {
	b, err := d.Read(name)
	if errors.Is(err, api.ErrNone) {
		return nil, nil
	}
	return b, err
}
