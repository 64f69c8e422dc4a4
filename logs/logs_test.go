package logs

import (
	"bytes"
	"fmt"
	"slices"
	"strings"
	"testing"

	"flowkeeper/api"
)

// file is a disk with one file, which may fall.
type file struct {
	api.Disk
	data, synced []byte
	calls        int
	err          error
}

func (d *file) Read(string) ([]byte, error) { return bytes.Clone(d.data), d.err }

func (d *file) Append(_ string, data []byte) error {
	d.calls++
	d.data = append(d.data, data...)
	return d.err
}

func (d *file) Sync() error {
	d.calls++
	d.synced = bytes.Clone(d.data)
	return d.err
}

// opened: a log over a file, and the records that it tells.
func opened(t *testing.T, data []byte) (*file, Log, []string) {
	t.Helper()
	d := &file{data: bytes.Clone(data)}
	var told []string
	l, err := Open(d, func(record []byte) {
		told = append(told, string(record))
		if cap(record) != len(record) {
			t.Errorf("behind the record %q there is room for %d", record, cap(record)-len(record))
		}
	})
	if err != nil {
		t.Fatalf("Open: %v", err)
	}
	return d, l, told
}

// tells: over that file these records are told.
func tells(t *testing.T, data []byte, want ...string) {
	t.Helper()
	if _, _, told := opened(t, data); !slices.Equal(told, want) {
		t.Fatalf("of %d bytes %q are told, want %q", len(data), told, want)
	}
}

// records: short ones, long ones, such that are all of what a frame has about them, and such that hold frames.
func records() []string {
	inner := string(appendFrame(appendFrame(nil, []byte("inner")), nil))
	l := []string{"", "\x00", "\x01\x00\x00", inner, inner[1:], "\x00" + inner, strings.Repeat("\xff", 7)}
	for _, n := range []int{1, 2, 127, 128, 254, 255, 256, 257, 300, 511, 512, 513} {
		l = append(l, strings.Repeat("\x00", n), strings.Repeat("r", n))
	}
	return l
}

// added: the file behind these records.
func added(t *testing.T, data []byte, records ...string) []byte {
	t.Helper()
	d, l, _ := opened(t, data)
	for _, r := range records {
		if err := l.Add([]byte(r)); err != nil {
			t.Fatalf("Add: %v", err)
		}
		if !bytes.Equal(d.synced, d.data) {
			t.Fatalf("Add of %q: it is not durable", r)
		}
	}
	return d.data
}

func TestRecords(t *testing.T) {
	l := records()
	tells(t, nil)
	tells(t, added(t, nil, l...), l...)
	for _, r := range l {
		tells(t, added(t, added(t, nil, r), "next"), r, "next")
	}
}

// Of every record each beginning is kept, of the next one too, and what comes behind them is told.
func TestBeginnings(t *testing.T) {
	for _, r := range records() {
		first := added(t, nil, "ahead")
		whole := added(t, first, r)
		for n := len(first); n < len(whole); n++ {
			tells(t, whole[:n], "ahead")
			again := added(t, whole[:n], "b")
			tells(t, again, "ahead", "b")
			for m := n; m < len(again); m++ {
				if (n+m)%7 > 0 && len(again) > 200 { // or it would take long
					continue
				}
				tells(t, again[:m], "ahead")
				tells(t, added(t, again[:m], "c", "d"), "ahead", "c", "d")
			}
		}
		tells(t, whole, "ahead", r)
	}
}

// What is cut off is made up for once, and by no more than it lacks.
func TestNothingInVain(t *testing.T) {
	whole := added(t, nil, "record")
	for n := 1; n < len(whole); n++ {
		if b := added(t, whole[:n], "", ""); n > 1 && len(b) != len(whole)+2*len(appendFrame(nil, nil)) {
			t.Errorf("cut off behind %d bytes, two empty records more: %d bytes", n, len(b))
		}
	}
}

// A record of which any byte is another one does not count.
func TestRot(t *testing.T) {
	for _, r := range []string{"", "r", "record"} {
		whole := added(t, nil, r)
		for i := range r {
			rot := bytes.Clone(whole)
			rot[headLen+i] ^= 4
			tells(t, rot)
			tells(t, added(t, rot, "next"), "next")
		}
		for i := range sealLen {
			rot := bytes.Clone(whole)
			rot[headLen+len(r)+i] ^= 4
			tells(t, rot)
		}
	}
}

// No seal ends in what makes up for one that was cut off.
func TestSeals(t *testing.T) {
	seen := map[seal]int{}
	for i := range 100000 {
		s := sealOf(fmt.Append(nil, i))
		if s[sealLen-1]%2 == 0 {
			t.Fatalf("the seal of %d is %v", i, s)
		}
		seen[s]++
	}
	if len(seen) < 99990 {
		t.Errorf("100000 records have %d seals", len(seen))
	}
	if s := sealOf([]byte("foobar")); s != (seal{0x68, 0xf9, 0x9c, 0xbf}) {
		t.Errorf("the FNV-1a sum of foobar is %x", s)
	}
}

// Behind an error the disk is not asked any more; a log of no disk has none to ask.
func TestErrors(t *testing.T) {
	for _, fails := range []int{1, 2} {
		d, l, _ := opened(t, nil)
		d.calls = 0
		d.err = api.ErrFull
		if fails == 2 {
			l.disk = lateSync{d}
		}
		if err := l.Add([]byte("r")); err != api.ErrFull || l.Err() != err || d.calls != fails {
			t.Errorf("Add = %v, %v, and the disk was asked %d times", err, l.Err(), d.calls)
		}
		d.err = nil
		if err := l.Add([]byte("r")); err != api.ErrFull || d.calls != fails {
			t.Errorf("Add again = %v, and the disk was asked %d times", err, d.calls)
		}
	}
	var l Log
	if err := l.Add(nil); err != api.ErrDown || l.Err() != api.ErrDown {
		t.Errorf("Add of no log = %v, %v", err, l.Err())
	}
	for _, err := range []error{api.ErrDown, api.ErrNone} {
		if l, got := Open(&file{err: err}, nil); got != err || l != (Log{}) {
			t.Errorf("Open = %v, %v", l, got)
		}
	}
}

// lateSync is a file of which Sync alone says its error.
type lateSync struct{ *file }

func (d lateSync) Append(name string, data []byte) error {
	_ = d.file.Append(name, data)
	return nil
}
