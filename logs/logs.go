// Package logs: records that are kept on a disk, one behind the other, through any fall of it; now and then a base is put in the place of all that are there.
package logs

import (
	"slices"

	"flowkeeper/api"
)

// Log: records on a disk. The zero one has no disk, so nothing can be added to it.
//
// Records are never written but behind what is there, and what a fall has cut off of the last frame is made up for with noughts ahead of the next one. So a frame that was cut off stays one that does not count, and all others stand where those ahead of them end.
//
// A base is written into a file of its own, and the file ahead of that goes when the base is durable, not sooner. The last file that is there is the one that counts. So a new base counts from when it is whole, or from when the file ahead of it has gone, and until then that counts: a fall may leave either, but they say the same, for nothing is added until it is known which is left.
type Log struct {
	disk  api.Disk
	at    int   // the file in which records stand
	short int   // so many bytes the last frame lacks
	err   error // the first that the disk said
}

// Open: the log of a disk; begin is told the base, if there is one, and tell then each record behind it, in order.
func Open(d api.Disk, begin, tell func(record []byte)) (Log, error) {
	if err := d.Sync(); err != nil { // whatever another left undone, a record that is told must not be lost behind it
		return Log{}, err
	}
	f, err := readLast(d)
	if err != nil {
		return Log{}, err
	}
	if f.at > 0 {
		begin(f.base)
	}
	return Log{disk: d, at: f.at, short: tellAll(f.frames, tell)}, nil
}

// Add: the record is durable, if no error comes. Behind an error the disk is not asked any more: nobody knows what it has made of that record, so nothing may come behind it.
func (l *Log) Add(record []byte) (err error) {
	if err = l.Err(); err != nil {
		return err
	}
	defer func() { l.err = err }()
	b := appendFrame(make([]byte, l.short), record)
	if err = l.disk.Append(names[l.at], b); err != nil {
		return err
	}
	l.short = 0
	return l.disk.Sync()
}

// Renew: a base stands in the place of all records so far, which are gone, if no error comes. Behind an error the disk is not asked any more: nobody knows in which file a record would have to stand.
func (l *Log) Renew(base []byte) (err error) {
	if err = l.Err(); err != nil {
		return err
	}
	defer func() { l.err = err }()
	next := other(l.at)
	if err = l.disk.Write(names[next], appendFrame(nil, base)); err != nil {
		return err
	}
	if err = l.disk.Sync(); err != nil {
		return err
	}
	l.at, l.short = next, 0
	if err = l.removeOthers(); err != nil {
		return err
	}
	return l.disk.Sync()
}

// removeOthers: of the files the one in which records stand is left alone. There may be two others: of one a fall has undone the removal.
func (l *Log) removeOthers() error {
	there, err := l.disk.Names()
	if err != nil {
		return err
	}
	for at, name := range names {
		if at == l.at || !slices.Contains(there, name) {
			continue
		}
		if err := l.disk.Remove(name); err != nil {
			return err
		}
	}
	return nil
}

// Err: why nothing can be added any more; nil: it can.
func (l *Log) Err() error {
	if l.disk == nil {
		return api.ErrDown
	}
	return l.err
}
