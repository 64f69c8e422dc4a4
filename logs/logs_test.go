package logs

import (
	"fmt"
	"maps"
	"slices"
	"strings"
	"testing"

	"flowkeeper/api"
)

// files: by their names.
type files map[string]string

// disk has files, and says its error, if it has one, from the so manyth call on; what it is told then is done all the same, but a Sync.
type disk struct {
	now, synced files
	calls       []string
	err         error
	well        int // so many calls are well ahead of the error
}

// told: a call of the disk, and its error.
func (d *disk) told(call string) error {
	d.calls = append(d.calls, call)
	if d.err != nil && len(d.calls) > d.well {
		return d.err
	}
	return nil
}

func (d *disk) Read(name string) ([]byte, error) {
	s, ok := d.now[name]
	err := d.told("read " + name)
	if err == nil && !ok {
		err = api.ErrNone
	}
	return []byte(s), err
}

func (d *disk) Write(name string, data []byte) error {
	d.now[name] = string(data)
	return d.told("write " + name)
}

func (d *disk) Append(name string, data []byte) error {
	d.now[name] += string(data)
	return d.told("append " + name)
}

func (d *disk) Remove(name string) error {
	delete(d.now, name)
	return d.told("remove " + name)
}

func (d *disk) Names() ([]string, error) {
	return slices.Sorted(maps.Keys(d.now)), d.told("names")
}

func (d *disk) Sync() error {
	err := d.told("sync")
	if err == nil {
		d.synced = maps.Clone(d.now)
	}
	return err
}

// opened: a log over these files, and what it tells: a base with a B ahead of it.
func opened(t *testing.T, f files) (*disk, Log, []string) {
	t.Helper()
	d := &disk{now: files{}}
	maps.Copy(d.now, f)
	var told []string
	tell := func(record []byte) {
		told = append(told, string(record))
		if cap(record) != len(record) {
			t.Errorf("behind the record %q there is room for %d", record, cap(record)-len(record))
		}
	}
	l, err := Open(d, func(base []byte) { tell(base); told = []string{"B" + strings.Join(told, "!")} }, tell)
	if err != nil {
		t.Fatalf("Open: %v", err)
	}
	if want := []string{"sync", "read log1", "read log0", "read log"}; !slices.Equal(d.calls, want[:max(2, min(4, len(d.calls)))]) {
		t.Fatalf("Open has the disk %q", d.calls)
	}
	d.calls = nil
	return d, l, told
}

// tells: over these files these records are told.
func tells(t *testing.T, f files, want ...string) {
	t.Helper()
	if _, _, told := opened(t, f); !slices.Equal(told, want) {
		t.Fatalf("of %d bytes %.200q are told, want %.200q", size(f), told, want)
	}
}

func size(f files) (n int) {
	for name, data := range f {
		n += len(name) + len(data)
	}
	return n
}

// records: short ones, long ones, such that are all of what a frame has about them, and such that hold frames.
func records() []string {
	inner := string(appendFrame(appendFrame(nil, []byte("inner")), nil))
	l := []string{"", "\x00", "\x01\x00\x00", inner, inner[1:], "\x00" + inner, strings.Repeat("\xff", 7)}
	for _, n := range []int{1, 2, 127, 128, 254, 255, 256, 257, 300, 511, 512, 513} {
		l = append(l, strings.Repeat("\x00", n), strings.Repeat("r", n))
	}
	return l
}

// added: the files behind these records.
func added(t *testing.T, f files, records ...string) files {
	t.Helper()
	d, l, _ := opened(t, f)
	for _, r := range records {
		if err := l.Add([]byte(r)); err != nil {
			t.Fatalf("Add: %v", err)
		}
		if !maps.Equal(d.synced, d.now) {
			t.Fatalf("Add of %q: it is not durable", r)
		}
	}
	return d.now
}

// renewed: the files behind these bases.
func renewed(t *testing.T, f files, bases ...string) files {
	t.Helper()
	d, l, _ := opened(t, f)
	for _, b := range bases {
		if err := l.Renew([]byte(b)); err != nil {
			t.Fatalf("Renew: %v", err)
		}
		if !maps.Equal(d.synced, d.now) || len(d.now) != 1 || size(d.now) > len(b)+20 {
			t.Fatalf("Renew by %q: there is %q, and durable is %q", b, d.now, d.synced)
		}
	}
	return d.now
}

// only: the one file of these.
func only(t *testing.T, f files) (name, data string) {
	t.Helper()
	if len(f) != 1 {
		t.Fatalf("there are %d files", len(f))
	}
	for name, data = range f {
	}
	return name, data
}

func TestRecords(t *testing.T) {
	l := records()
	tells(t, nil)
	tells(t, added(t, nil, l...), l...)
	for _, r := range l {
		tells(t, added(t, added(t, nil, r), "next"), r, "next")
	}
}

// A base stands in the place of all that was there, and records go behind it.
func TestBases(t *testing.T) {
	for _, b := range append(records(), strings.Repeat("base", 1000)) {
		f := renewed(t, nil, b)
		tells(t, f, "B"+b)
		tells(t, added(t, f, "one", "two"), "B"+b, "one", "two")
		f = added(t, f, records()...)
		tells(t, renewed(t, f, "last"), "Blast")
		tells(t, added(t, renewed(t, f, "x", "y", b), "one"), "B"+b, "one")
	}
	f := files{}
	for i := range 300 {
		f = renewed(t, added(t, f, "a", "b"), fmt.Sprint(i))
		tells(t, f, fmt.Sprint("B", i))
	}
}

// Of every record each beginning is kept, of the next one too, and what comes behind them is told.
func TestBeginnings(t *testing.T) {
	for _, ahead := range []files{added(t, nil, "ahead"), added(t, renewed(t, nil, "base"), "ahead")} {
		_, _, told := opened(t, ahead)
		name, first := only(t, ahead)
		for _, r := range records() {
			_, whole := only(t, added(t, ahead, r))
			for n := len(first); n < len(whole); n++ {
				tells(t, files{name: whole[:n]}, told...)
				_, again := only(t, added(t, files{name: whole[:n]}, "b"))
				tells(t, files{name: again}, append(told, "b")...)
				tells(t, renewed(t, files{name: whole[:n]}, "anew"), "Banew")
				for m := n; m < len(again); m++ {
					if (n+m)%7 > 0 && len(again) > 200 { // or it would take long
						continue
					}
					tells(t, files{name: again[:m]}, told...)
					tells(t, added(t, files{name: again[:m]}, "c", "d"), append(told, "c", "d")...)
				}
			}
			tells(t, files{name: whole}, append(told, r)...)
		}
	}
}

// aheads: files with a base and without, and what a base has to stand for.
func aheads(t *testing.T) []files {
	return []files{{}, added(t, nil, "a", "b"), renewed(t, nil, "1"), added(t, renewed(t, nil, "1"), "a"), added(t, renewed(t, nil, "1", "2"), "a"), added(t, renewed(t, nil, "1", "2", "3"), "a")}
}

// merged: the files of both.
func merged(f, more files) files {
	all := files{}
	maps.Copy(all, f)
	maps.Copy(all, more)
	return all
}

// Of every base each beginning is kept, with what was ahead of it; it does not count, whatever comes then.
func TestBeginningsOfBases(t *testing.T) {
	for _, ahead := range aheads(t) {
		_, _, told := opened(t, ahead)
		for _, b := range append(records(), strings.Repeat("base", 30)) {
			name, whole := only(t, renewed(t, ahead, b))
			if _, ok := ahead[name]; ok {
				t.Fatalf("a base is written over what it stands for, in %s", name)
			}
			for n := range len(whole) {
				f := merged(ahead, files{name: whole[:n]})
				tells(t, f, told...)
				f = added(t, f, "c", "d")
				tells(t, f, append(slices.Clip(told), "c", "d")...)
				f = renewed(t, f, "e")
				tells(t, f, "Be")
				tells(t, added(t, f, "f"), "Be", "f")
			}
		}
	}
}

// A base is whole, and what it stands for has not gone: one of the two is told, and what comes behind it, and the next base has both go.
func TestLeftovers(t *testing.T) {
	for _, ahead := range aheads(t) {
		_, _, told := opened(t, ahead)
		base := renewed(t, ahead, "base")
		both := merged(ahead, base)
		_, _, got := opened(t, both)
		if !slices.Equal(got, told) && !slices.Equal(got, []string{"Bbase"}) {
			t.Fatalf("%q are told, behind %q", got, told)
		}
		for range 3 {
			both = added(t, both, "c")
			got = append(got, "c")
			tells(t, both, got...)
		}
		for _, lost := range []files{nil, {"log": ahead["log"]}, {"log": "x"}} { // it had gone, and comes back
			f := merged(lost, renewed(t, both, "new"))
			tells(t, f, "Bnew")
			f = added(t, f, "d")
			tells(t, f, "Bnew", "d")
			tells(t, added(t, renewed(t, merged(lost, f), "newer"), "e"), "Bnewer", "e")
		}
	}
}

// Whatever a fall leaves of the calls of the disk for a base, what is told is as it was, or the base.
func TestFallsOfBases(t *testing.T) {
	for _, ahead := range aheads(t) {
		for _, old := range []files{nil, {"log": "old"}, {"log0": "torn"}, {"log1": "torn"}} {
			f := merged(old, ahead)
			_, _, told := opened(t, f)
			for calls := range 7 { // all of them, with a leftover
				for kept := range 8 {
					d, l, _ := opened(t, f)
					d.err, d.well = api.ErrDown, calls
					_ = l.Renew([]byte("base"))
					left := d.fallen(kept)
					_, _, got := opened(t, left)
					if !slices.Equal(got, told) && !slices.Equal(got, []string{"Bbase"}) || calls == 6 && len(left) > 1 {
						t.Fatalf("behind %d calls, %b: %q are told of %q, behind %q", calls, kept, got, left, told)
					}
					tells(t, added(t, left, "c"), append(got, "c")...)
				}
			}
		}
	}
}

// fallen: the files behind a fall, of which so much is kept as the bits of kept say: of each file that was turned since the last Sync.
func (d *disk) fallen(kept int) files {
	f := maps.Clone(d.synced)
	for i, name := range names {
		if kept>>i&1 == 0 {
			continue
		}
		delete(f, name)
		if data, ok := d.now[name]; ok {
			f[name] = data
		}
	}
	return f
}

// What is not the log's is left alone.
func TestOtherFiles(t *testing.T) {
	d, l, _ := opened(t, files{"lo": "x", "log": "", "log00": "y", "log2": "z", "other": ""})
	if err := l.Renew([]byte("base")); err != nil {
		t.Fatalf("Renew: %v", err)
	}
	if got := slices.Sorted(maps.Keys(d.now)); !slices.Equal(got, []string{"lo", "log00", "log1", "log2", "other"}) {
		t.Errorf("there are %q", got)
	}
}

// A base is durable ahead of anything that goes, and what goes has gone for good.
func TestOrderOfCalls(t *testing.T) {
	d, l, _ := opened(t, added(t, nil, "a"))
	for _, want := range []string{
		"write log1, sync, names, remove log, sync",
		"write log0, sync, names, remove log1, sync",
		"write log1, sync, names, remove log0, sync",
	} {
		d.calls = nil
		if err := l.Renew([]byte("b")); err != nil || strings.Join(d.calls, ", ") != want {
			t.Errorf("Renew, %v, has the disk %q, want %s", err, d.calls, want)
		}
	}
	d.calls = nil
	if err := l.Add([]byte("b")); err != nil || strings.Join(d.calls, ", ") != "append log1, sync" {
		t.Errorf("Add, %v, has the disk %q", err, d.calls)
	}
}

// What is cut off is made up for once, and by no more than it lacks.
func TestNothingInVain(t *testing.T) {
	_, whole := only(t, added(t, nil, "record"))
	for n := 1; n < len(whole); n++ {
		if _, b := only(t, added(t, files{"log": whole[:n]}, "", "")); n > 1 && len(b) != len(whole)+2*len(appendFrame(nil, nil)) {
			t.Errorf("cut off behind %d bytes, two empty records more: %d bytes", n, len(b))
		}
	}
	d, l, _ := opened(t, files{"log": whole[:5]})
	if err := l.Renew(nil); err != nil {
		t.Fatal(err)
	}
	_, base := only(t, d.now)
	if err := l.Add(nil); err != nil || len(d.now["log1"]) != len(base)+len(appendFrame(nil, nil)) {
		t.Errorf("behind a base: %q, %v", d.now, err)
	}
}

// A record of which any byte is another one does not count, nor does a base.
func TestRot(t *testing.T) {
	for _, r := range []string{"", "r", "record"} {
		for _, f := range []files{added(t, nil, r), renewed(t, nil, r)} {
			name, whole := only(t, f)
			for i := range len(whole) {
				rot := []byte(whole)
				rot[i] ^= 4
				tells(t, files{name: string(rot)})
				if i >= headLen {
					tells(t, added(t, files{"log": string(rot)}, "next"), "next")
				}
				tells(t, renewed(t, files{name: string(rot)}, "next"), "Bnext")
			}
		}
	}
}

// No seal ends in what makes up for one that was cut off.
func TestSeals(t *testing.T) {
	seen := map[seal]int{}
	for i := range 100000 {
		s := sealOf(fmt.Append(nil, i))
		if s[sealLen-1]%2 == 0 {
			t.Fatalf("the seal of %d is %v", i, s)
		}
		seen[s]++
	}
	if len(seen) < 99990 {
		t.Errorf("100000 records have %d seals", len(seen))
	}
	if s := sealOf([]byte("foobar")); s != (seal{0x68, 0xf9, 0x9c, 0xbf}) {
		t.Errorf("the FNV-1a sum of foobar is %x", s)
	}
}

// Behind an error, at whichever call, the disk is not asked any more; a log of no disk has none to ask.
func TestErrors(t *testing.T) {
	add := func(l *Log) error { return l.Add([]byte("r")) }
	renew := func(l *Log) error { return l.Renew([]byte("b")) }
	for _, c := range []struct {
		call  func(l *Log) error
		calls int
	}{{add, 2}, {renew, 5}} {
		for well := range c.calls {
			d, l, _ := opened(t, added(t, nil, "ahead"))
			d.err, d.well = api.ErrFull, well
			if err := c.call(&l); err != api.ErrFull || l.Err() != err || len(d.calls) != well+1 {
				t.Errorf("an error behind %d calls: %v, %v, and the disk was asked %q", well, err, l.Err(), d.calls)
			}
			d.err = nil
			for _, call := range []func(l *Log) error{add, renew} {
				if err := call(&l); err != api.ErrFull || len(d.calls) != well+1 {
					t.Errorf("again: %v, and the disk was asked %q", err, d.calls)
				}
			}
		}
		var l Log
		if err := c.call(&l); err != api.ErrDown || l.Err() != api.ErrDown {
			t.Errorf("of no log: %v", err)
		}
	}
	for _, err := range []error{api.ErrDown, api.ErrFull} {
		for well := range 4 {
			if l, got := Open(&disk{err: err, well: well}, nil, nil); got != err || l != (Log{}) {
				t.Errorf("Open, with an error behind %d calls: %v, %v", well, l, got)
			}
		}
	}
	for _, name := range names {
		if l, got := Open(scratched{&disk{}, name}, nil, nil); got != api.ErrFull || l != (Log{}) {
			t.Errorf("Open, with an error of %s alone: %v, %v", name, l, got)
		}
	}
}

// scratched is a disk of which one file cannot be read.
type scratched struct {
	*disk
	name string
}

func (d scratched) Read(name string) ([]byte, error) {
	if name == d.name {
		return nil, api.ErrFull
	}
	return d.disk.Read(name)
}
