// Package logs: records that are kept on a disk, one behind the other, through any fall of it.
package logs

import (
	"errors"

	"flowkeeper/api"
)

// name is the file in which the records stand.
const name = "log"

// Log: records on a disk. The zero one has no disk, so nothing can be added to it.
//
// Nothing is ever written but behind what is there, and what a fall has cut off of the last frame is made up for with noughts ahead of the next one. So a frame that was cut off stays one that does not count, and all others stand where those ahead of them end.
type Log struct {
	disk  api.Disk
	short int   // so many bytes the last frame lacks
	err   error // the first that the disk said
}

// Open: the log of a disk; tell is told each record, in order.
func Open(d api.Disk, tell func(record []byte)) (Log, error) {
	if err := d.Sync(); err != nil { // whatever another left undone, a record that is told must not be lost behind it
		return Log{}, err
	}
	b, err := d.Read(name)
	if errors.Is(err, api.ErrNone) {
		b, err = nil, nil
	}
	if err != nil {
		return Log{}, err
	}
	return Log{disk: d, short: tellAll(b, tell)}, nil
}

// Add: the record is durable, if no error comes. Behind an error the disk is not asked any more: nobody knows what it has made of that record, so nothing may come behind it.
func (l *Log) Add(record []byte) (err error) {
	if err = l.Err(); err != nil {
		return err
	}
	defer func() { l.err = err }()
	b := appendFrame(make([]byte, l.short), record)
	if err = l.disk.Append(name, b); err != nil {
		return err
	}
	l.short = 0
	return l.disk.Sync()
}

// Err: why nothing can be added any more; nil: it can.
func (l *Log) Err() error {
	if l.disk == nil {
		return api.ErrDown
	}
	return l.err
}
