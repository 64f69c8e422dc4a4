package flowkeeper_test

import (
	"fmt"
	"maps"
	"math"
	"math/rand/v2"
	"slices"
	"testing"

	"flowkeeper/api"
	"flowkeeper/plain"
)

// size: so many bytes these files have, with their names.
func size(files map[string]string) (n int) {
	for name, data := range files {
		n += len(name) + len(data)
	}
	return n
}

// renew: a snapshot: nothing else turns, all is durable, and has little room.
func (d desk) renew(disk *shaky) {
	d.t.Helper()
	was := d.all()
	d.well(d.e.Snapshot())
	if s := d.all(); s != was {
		d.t.Fatalf("P27: a snapshot turned\n%s\nto\n%s", was, s)
	}
	if n := size(disk.durable); n > 4000 || len(disk.pending) > 0 {
		d.t.Fatalf("P27: behind a snapshot %d bytes are durable, and %d changes are not", n, len(disk.pending))
	}
}

// P27: a snapshot behind each call of a script, several, and an opening or none: what comes then is answered as ever, and all is durable.
func TestSnapshotAnywhere(t *testing.T) {
	t.Parallel()
	l := script()
	for i := range l {
		for how := range 4 {
			d := newShaky(nil)
			e, like := open(t, d), afresh(t, l[:i])
			for _, c := range l[:i] {
				if c.Op != snapshot {
					e.make(c)
				}
			}
			for range 1 + how/2 {
				e.renew(d)
				if how%2 > 0 {
					d.fall(d.durable)
					e = open(t, d)
				}
			}
			over(t, d, stateOf(t, l[:i]))
			for k, c := range l[i:] {
				got, _, _ := e.make(c)
				if want, _, _ := like.make(c); got != want || e.all() != like.all() {
					t.Fatalf("P27: a snapshot behind call %d; then call %d: %s, want %s; it is\n%s\nand should be\n%s", i, i+k, got, want, e.all(), like.all())
				}
			}
			over(t, d, stateOf(t, l))
		}
	}
}

// P27: the disk gets into trouble within a snapshot, and again within the next ones; whatever was lost, nothing has turned, and what was called between the falls is there.
func TestTroubleInSnapshots(t *testing.T) {
	t.Parallel()
	x := api.Node{Budget: 3, Close: 20, Beat: 7, Base: 4, Cap: 9, Jitter: 2}
	first := []api.Command{submission(api.Flow{Deadline: 300, Nodes: []api.Node{x, x}}), {Op: api.Poll}}
	between := [][]api.Command{nil, {{Op: api.Tick, N: 3}}, {{Op: api.Poll}, {Op: api.Fail, N: 1}}, {{Op: api.Seed, N: 9}}}
	hits := 0
	var deeper func(files map[string]string, made []api.Command, depth int)
	deeper = func(files map[string]string, made []api.Command, depth int) {
		if depth == 0 {
			return
		}
		more := append(slices.Clone(made), between[depth]...)
		want := state{all: afresh(t, more).all()}
		for left := range 5 {
			for _, x := range []trouble{goesDown, isFull, smokes, halves} {
				d := newShaky(files)
				e := open(t, d)
				for _, c := range between[depth] {
					e.make(c)
				}
				d.expect(left, x)
				if e.e.Snapshot(); d.next != none {
					continue
				}
				hits++
				l := d.outcomes()
				for i, files := range l {
					open(t, newShaky(files)).isOne(want)
					if i == len(l)/2 || i == len(l)-1 { // all would take long
						deeper(files, more, depth-1)
					}
				}
			}
		}
	}
	d := newShaky(nil)
	e := open(t, d)
	for _, c := range first {
		e.make(c)
	}
	deeper(d.durable, first, 3)
	if hits < 500 {
		t.Errorf("there was trouble %d times", hits)
	}
}

// P27: what an earlier snapshot left behind when it was cut off, or could not remove any more, goes with the next one.
func TestLeftovers(t *testing.T) {
	for _, left := range []int{0, 1, 2, 3} {
		for rounds := range 6 {
			d := newShaky(nil)
			e := open(t, d)
			for i := range rounds + 1 {
				e.well(e.e.Seed(uint64(i)), e.e.Snapshot(), e.e.Seed(uint64(i+100)))
			}
			d.expect(left, goesDown)
			e.bad(api.ErrDown, e.e.Snapshot)
			for i, files := range d.outcomes() {
				d := newShaky(files)
				e := open(t, d)
				e.well(e.e.Seed(uint64(i + 7)))
				e.renew(d)
				if len(d.durable) != 1 {
					t.Fatalf("P27: behind a snapshot there are %q", slices.Sorted(maps.Keys(d.durable)))
				}
				over(t, d, stateOf(t, []api.Command{{Op: api.Seed, N: uint64(i + 7)}}))
			}
		}
	}
}

// P27: which run ended first, who is first in the queue, what is first of what is due at the same time: as it was, though the order of ids is another.
func TestOrdersAreKept(t *testing.T) {
	d := newShaky(nil)
	e := open(t, d)
	f := plainly(nil, nil)
	for range 6 {
		e.submit(f)
	}
	for range 12 {
		if _, _, err := e.e.Poll(); err != nil {
			t.Fatal(err)
		}
	}
	for _, token := range []uint64{12, 1, 9, 4, 10, 5} {
		e.well(e.e.Fail(token)) // all are to be ready at once
	}
	for _, run := range []uint64{4, 1} {
		e.well(e.e.Cancel(run))
	}
	again := func() {
		t.Helper()
		was := e.all()
		e.renew(d)
		d.fall(d.durable)
		e = open(t, d)
		if s := e.all(); s != was {
			t.Fatalf("P27: it is\n%s\nand was\n%s", s, was)
		}
	}
	again()
	e.due("[{6 1 10} {5 0 10} {2 1 10} {5 1 10} {3 0 10} {2 0 100} {3 1 100} {6 0 100} {2 -1 1000} {3 -1 1000} {5 -1 1000} {6 -1 1000}]")
	e.well(e.e.Tick(10))
	again()
	e.ready("[{6 1 2 0} {5 0 2 0} {2 1 2 0} {5 1 2 0} {3 0 2 0}]")
	e.poll("{6 1 2 13}")
	again()
	e.poll("{5 0 2 14}")
	e.submit(f)
	again()
	if got := fmt.Sprint(e.runs()); got != "[1 2 3 5 6 7]" {
		t.Errorf("P12, P27: %s are known", got)
	}
	e.submit(f)
	if got := fmt.Sprint(e.runs()); got != "[2 3 5 6 7 8]" {
		t.Errorf("P12, P27: %s are known", got)
	}
}

// P27: rests that are yet to begin hang on the seed, and beats on the flow; both are kept, to their last bits.
func TestNumbersAreKept(t *testing.T) {
	for k := range 64 {
		for _, n := range []uint64{1<<k - 1, 1 << k, 1<<k + 1, math.MaxUint64 >> k} {
			d := newShaky(nil)
			e := open(t, d)
			e.well(e.e.Seed(n), e.e.Tick(n))
			e.renew(d)
			if now, seed := open(t, newShaky(d.durable)).e.Clock(); now != min(n, end) || seed != n {
				t.Fatalf("P27: at %d with the seed %[1]d; then at %d with the seed %d", n, now, seed)
			}
		}
	}
	r := rand.New(rand.NewPCG(3, 73))
	for range 300 {
		d := newShaky(nil)
		e, like := open(t, d), newDesk(t)
		for _, c := range []api.Command{{Op: api.Seed, N: any64(r)}, {Op: api.Tick, N: any64(r)}, submission(anyFlow(r)), submission(anyFlow(r)), {Op: api.Poll}} {
			e.make(c)
			like.make(c)
		}
		e.renew(d)
		if a, b := open(t, newShaky(d.durable)).future(), like.future(); a != b {
			t.Fatalf("P27: opened anew it goes on as\n%s\nand should as\n%s", a, b)
		}
	}
}

// greatest: a flow of which each number is the greatest; each node waits for all ahead of the so manyth that are ahead of it.
func greatest(waits int) api.Flow {
	f := api.Flow{Deadline: span}
	for i := range api.MaxNodes {
		n := api.Node{Budget: 5, Close: span, Beat: span, Base: span, Cap: span, Jitter: span}
		for a := range min(i, waits) {
			n.After = append(n.After, a)
		}
		f.Nodes = append(f.Nodes, n)
	}
	return f
}

// room: a snapshot of what the host has; then and opened anew it is the same, in few bytes.
func room(t *testing.T, h *plain.Host, most int) int {
	t.Helper()
	was := everything(h)
	if e := h.Snapshot(plain.Well()); e != api.OK || h.Size() > most {
		t.Fatalf("P27: Snapshot = %d, %d bytes", e, h.Size())
	}
	h.Lose(0, 0)
	if e := h.Open(plain.Well()); e != api.OK || everything(h) != was {
		t.Fatalf("P27: Open = %d\n%s\nand should be\n%s", e, everything(h), was)
	}
	return h.Size()
}

// P27: the fullest engine that the bounds allow: six runs of twelve nodes, the greatest numbers, late times; a part of the nodes done, and all the others at work, or resting, or waiting for all that they may.
func TestRoomOfTheFullest(t *testing.T) {
	t.Parallel()
	well := plain.Well()
	for waits := range api.MaxNodes {
		for _, seed := range []uint64{0, math.MaxUint64} {
			for late := range 3 {
				h := plain.NewHost()
				h.Open(well)
				h.Do(api.Seed, seed, well)
				h.Do(api.Tick, []uint64{0, end - span/2, end - 3*span}[late], well)
				for range 1000 { // tokens of two bytes
					h.Submit(written(row(1)), well)
					x, _, _ := h.Poll(well)
					h.Do(api.Complete, x.Token, well)
				}
				for range 6 {
					h.Submit(written(greatest(waits)), well)
				}
				room(t, h, 4000)
				for done := 0; ; {
					for {
						x, ok, _ := h.Poll(well)
						if !ok {
							break
						}
						h.Do(api.Tick, 1009, well)
						if done < 6*waits {
							h.Do(api.Complete, x.Token, well)
							done++
						}
					}
					room(t, h, 4000)
					if done >= 6*waits {
						break
					}
				}
				if n := len(h.Timers()); n != 6+6*2*(12-waits) && late != 1 {
					t.Fatalf("of %d waits: %d are due", waits, n)
				}
				for token := range uint64(40) {
					h.Do(api.Fail, 1072-token, well)
				}
				room(t, h, 4000)
				h.Do(api.Tick, math.MaxUint64, well)
				room(t, h, 4000)
			}
		}
	}
}

// sink is a disk that keeps what is durable, and drops the rest.
type sink struct{ files map[string][]byte }

func (d *sink) Read(name string) ([]byte, error) {
	b, ok := d.files[name]
	if !ok {
		return nil, api.ErrNone
	}
	return slices.Clone(b), nil
}

func (d *sink) Write(name string, data []byte) error {
	d.files[name] = slices.Clone(data)
	return nil
}

func (d *sink) Append(string, []byte) error { return nil }

func (d *sink) Remove(name string) error {
	delete(d.files, name)
	return nil
}

func (d *sink) Names() ([]string, error) { return slices.Sorted(maps.Keys(d.files)), nil }
func (d *sink) Sync() error              { return nil }

// P27: great tokens, and ids of runs: they have grown behind millions of calls; the fullest engine has room all the same.
func TestRoomOfGreatTokens(t *testing.T) {
	d := &sink{files: map[string][]byte{}}
	e := open(t, d)
	b := written(row(1))
	for range 300_000 {
		if _, err := e.e.Submit(b); err != nil {
			t.Fatal(err)
		}
		x, _, err := e.e.Poll()
		if err != nil || e.e.Complete(x.Token) != nil {
			t.Fatalf("P14: Poll = %v, %v", x, err)
		}
	}
	e.well(e.e.Seed(math.MaxUint64), e.e.Tick(end-3*span))
	for range 6 {
		e.submit(greatest(0))
	}
	for i := range uint64(72) {
		e.poll(fmt.Sprint(api.Task{Run: 300_001 + i/12, Node: int(i % 12), Try: 1, Token: 300_001 + i}))
		e.well(e.e.Tick(14_000))
	}
	e.well(e.e.Snapshot())
	n := 0
	for name, data := range d.files {
		n += len(name) + len(data)
	}
	if n > 3000 || len(e.e.Timers()) != 150 { // ten bytes more of each token and id would leave it below 4,000
		t.Errorf("P27: %d bytes, and %d are due", n, len(e.e.Timers()))
	}
	was := e.all()
	e = open(t, d)
	if s := e.all(); s != was {
		t.Errorf("P27: it is\n%s\nand was\n%s", s, was)
	}
	e.noToken(0, 1, 300_000, 300_073)
	e.well(e.e.Beat(300_001), e.e.Complete(300_001), e.e.Fail(300_002), e.e.Complete(300_072))
	e.says(300_001, "1 [5 4 3 3 3 3 3 3 3 3 3 3] [1 1 1 1 1 1 1 1 1 1 1 1]")
	e.says(300_006, "1 [3 3 3 3 3 3 3 3 3 3 3 5] [1 1 1 1 1 1 1 1 1 1 1 1]")
}

// P27: however many calls there were, of all kinds: a snapshot has little room, and so has what is durable behind it.
func TestRoomBehindManyCalls(t *testing.T) {
	r := rand.New(rand.NewPCG(5, 79))
	h := plain.NewHost()
	h.Open(plain.Well())
	most := 0
	for i := range 4000 {
		c := anyCommand(r, uint64(i/3))
		switch c.Op {
		case api.Submit:
			h.Submit([]byte(c.Data), plain.Well())
		case api.Poll:
			h.Poll(plain.Well())
		case snapshot:
		default:
			h.Do(c.Op, c.N, plain.Well())
		}
		if i%400 == 399 {
			was := h.Size()
			is := room(t, h, 2000)
			most = max(most, was-is)
		}
	}
	if most < 1000 {
		t.Errorf("a snapshot makes room of %d bytes", most)
	}
}

// P24, P27: an engine that had an error writes no snapshot, and its snapshot says that error; one that had an error in a snapshot makes no call durable any more.
func TestSnapshotBehindError(t *testing.T) {
	seed := api.Command{Op: api.Seed, N: 5}
	d := newShaky(nil)
	e := open(t, d)
	e.well(e.e.Seed(1))
	d.expect(0, isFull)
	e.bad(api.ErrFull, func() error { return e.e.Seed(2) })
	asked := d.calls
	e.bad(api.ErrFull, e.e.Snapshot, e.e.Snapshot)
	if d.calls != asked {
		t.Errorf("P24: a snapshot behind an error has asked the disk")
	}
	over(t, d, stateOf(t, []api.Command{{Op: api.Seed, N: 1}}))
	for left := range 4 {
		for _, x := range []trouble{goesDown, isFull, smokes, halves} {
			d, e, _, hit := troubled(t, []api.Command{seed, submission(plainly(nil)), {Op: api.Poll}}, api.Command{Op: snapshot}, left, x)
			if !hit {
				t.Fatalf("P27: a snapshot writes %d times", left)
			}
			e.refuses(d, []api.Command{seed, submission(plainly(nil)), {Op: api.Poll}}, x.says())
			e.bad(x.says(), e.e.Snapshot, func() error { return e.e.Complete(1) }, func() error { return e.e.Cancel(1) })
			e.noToken(0, 2)
			e.pollNone()
			e.bad(api.ErrRun, func() error { return e.e.Cancel(2) })
		}
	}
}

// P23: what an earlier program left is read as ever, whether there were snapshots in it or none.
func TestFilesOfOld(t *testing.T) {
	calls := []api.Command{{Op: api.Seed, N: 256}, {Op: api.Tick, N: 3}}
	for _, c := range []struct {
		name, data string
		more       []api.Command
	}{
		{"log", "03000800017c90e641" + "02000703ff266f9f", nil},
		{"log1", "09000380020000000000007cf8d3d1" + "0200080710608a3b", []api.Command{{Op: api.Seed, N: 7}}},
	} {
		d := newShaky(map[string]string{c.name: string(unhex(t, c.data))})
		over(t, d, stateOf(t, append(slices.Clone(calls), c.more...)))
		open(t, d).renew(d)
		over(t, d, stateOf(t, append(slices.Clone(calls), c.more...)))
	}
}
