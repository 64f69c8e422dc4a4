package flowkeeper_test

import (
	"fmt"
	"math"
	"math/rand/v2"
	"slices"
	"testing"

	"flowkeeper/api"
	"flowkeeper/flowkeeper"
	"flowkeeper/plain"
)

// script: calls of each kind, such that turn something, such that turn nothing that is seen, and such that are refused; runs end in each way, some are forgotten, and time ends. There are snapshots of nothing, one behind the other, and behind all.
func script() []api.Command {
	x := api.Node{Budget: 3, Close: 20, Beat: 7, Base: 4, Cap: 9, Jitter: 2}
	y, z, once := x, x, x
	y.After = []int{0, 1}
	z.Beat, once.Budget = 0, 1
	var l []api.Command
	say := func(op int, numbers ...uint64) {
		for _, n := range numbers {
			l = append(l, api.Command{Op: op, N: n})
		}
	}
	submit := func(deadline int, nodes ...api.Node) {
		l = append(l, submission(api.Flow{Deadline: deadline, Nodes: nodes}))
	}
	say(snapshot, 0)
	say(api.Seed, 1<<40+5)
	say(api.Poll, 0)
	submit(300, x, x, y, z)
	say(api.Poll, 0, 0)
	say(api.Tick, 3)
	say(api.Beat, 2, 3)
	say(api.Fail, 1, 1)
	submit(40, once)
	submit(0, once)
	say(api.Poll, 0, 0)
	say(api.Beat, 3)
	say(api.Complete, 3)
	submit(90, x)
	say(snapshot, 0, 0)
	say(api.Cancel, 3, 3)
	say(api.Fail, 4)
	submit(17, x, z)
	say(api.Poll, 0)
	say(api.Tick, 0, 4, 3)
	submit(200, z)
	submit(200, z, z)
	submit(200, z)
	say(api.Poll, 0, 0)
	say(api.Seed, 1<<40+5, 0)
	say(api.Complete, 2, 6, 7)
	say(snapshot, 0)
	say(api.Tick, 9)
	submit(100, x, x, x)
	submit(100, x)
	submit(100, x)
	say(api.Poll, 0, 0, 0, 0)
	say(api.Tick, 4, 2, math.MaxUint64)
	submit(100, x)
	say(api.Poll, 0)
	say(snapshot, 0)
	say(api.Tick, 0)
	return l
}

// state is what an engine says, and how it goes on.
type state struct{ all, future string }

// stateOf: of an engine that made these calls and was never opened anew.
func stateOf(t *testing.T, calls []api.Command) state {
	t.Helper()
	return state{afresh(t, calls).all(), afresh(t, calls).future()}
}

// isOne: which of these states the engine is in.
func (d desk) isOne(wants ...state) int {
	d.t.Helper()
	s := d.all()
	which := slices.IndexFunc(wants, func(w state) bool { return w.all == s })
	if which < 0 {
		d.t.Fatalf("P23, P25: opened anew it is\n%s\nand should be one of %q", s, wants)
	}
	return which
}

// over: whichever files are left of the disk when it falls, an engine opens over them in one of these states, and goes on as that one does; opened once more, nothing else having been done, it is the same.
func over(t *testing.T, d *shaky, wants ...state) {
	t.Helper()
	l := d.outcomes()
	for i, files := range l {
		d := newShaky(files)
		which := open(t, d).isOne(wants...)
		for _, files := range d.outcomes() {
			open(t, newShaky(files)).isOne(wants[which])
		}
		if i%20 > 0 && i < len(l)-1 { // this takes long
			continue
		}
		if s := open(t, d).future(); s != wants[which].future {
			t.Fatalf("P23: over %q it goes on as\n%s\nand should as\n%s", files, s, wants[which].future)
		}
	}
}

// troubled: an engine behind these calls, and what comes of one call more when the disk gets into trouble; false: it came through.
func troubled(t *testing.T, calls []api.Command, c api.Command, left int, x trouble) (d *shaky, e desk, answer string, hit bool) {
	t.Helper()
	d = newShaky(nil)
	e = open(t, d)
	for _, c := range calls {
		e.make(c)
	}
	d.expect(left, x)
	answer, _, _ = e.make(c)
	return d, e, answer, d.next == none
}

// everyTrouble goes through a script, and all that may befall the disk in each of its calls.
func everyTrouble(t *testing.T, each func(l []api.Command, i int, d *shaky, e desk, x trouble)) {
	t.Helper()
	l := script()
	hits := 0
	for i, c := range l {
		answer, turned, _ := afresh(t, l[:i]).make(c)
		for _, x := range []trouble{goesDown, isFull, smokes, halves} {
			for left := 0; ; left++ {
				d, e, got, hit := troubled(t, l[:i], c, left, x)
				if !hit {
					if got != answer || turned != (left > 0) {
						t.Fatalf("P23: call %d: %s, want %s; it wrote %d times", i, got, answer, left)
					}
					break
				}
				hits++
				if want := fmt.Sprint(0, api.Task{}, c.Op != api.Poll, x.says()); got != want {
					t.Fatalf("P24: call %d: %s, want %s", i, got, want)
				}
				each(l, i, d, e, x)
			}
		}
	}
	if hits < 4*len(l) {
		t.Errorf("%d times only there was trouble", hits)
	}
}

// P23 to P25, P27: the disk gets into trouble at each call of it that writes, within each call of an engine.
func TestTroubleInCalls(t *testing.T) {
	t.Parallel()
	states := map[int]state{}
	everyTrouble(t, func(l []api.Command, i int, d *shaky, e desk, x trouble) {
		for _, k := range []int{i, i + 1} {
			if _, ok := states[k]; !ok {
				states[k] = stateOf(t, l[:k])
			}
		}
		if s := e.all(); s != states[i].all {
			t.Fatalf("P24: call %d had an error, and it turned\n%s\nto\n%s", i, states[i].all, s)
		}
		over(t, d, states[i], states[i+1])
		if d.down {
			return
		}
		which := open(t, d).isOne(states[i], states[i+1]) // without a fall
		over(t, d, []state{states[i], states[i+1]}[which])
	})
}

// probes: a call of each kind, and of each number that may be of interest.
func probes() []api.Command {
	l := []api.Command{submission(plainly(nil)), {Op: api.Submit, Data: "\x01"}, {Op: api.Submit}, {Op: api.Poll}, {Op: api.Tick}, {Op: api.Tick, N: 1}, {Op: api.Tick, N: math.MaxUint64}, {Op: api.Seed}, {Op: api.Seed, N: 1<<40 + 5}}
	for n := range uint64(16) {
		for _, op := range []int{api.Beat, api.Complete, api.Fail, api.Cancel} {
			l = append(l, api.Command{Op: op, N: n})
		}
	}
	return l
}

// refuses: behind an error what would turn something says that error, and nothing turns; all else is as ever; and the disk is not asked any more.
func (d desk) refuses(disk *shaky, calls []api.Command, want error) {
	d.t.Helper()
	was, asked := d.all(), disk.calls
	for _, c := range probes() {
		answer, turned, _ := afresh(d.t, calls).make(c)
		if turned {
			answer = fmt.Sprint(0, api.Task{}, c.Op != api.Poll, want)
		}
		got, _, err := d.make(c)
		if got != answer || turned && err != want {
			d.t.Fatalf("P24: behind an error of the disk call %d of %d says %s, want %s", c.Op, c.N, got, answer)
		}
	}
	if err := d.e.Snapshot(); err != want {
		d.t.Fatalf("P24: Snapshot: %v, want %v", err, want)
	}
	if s := d.all(); s != was {
		d.t.Fatalf("P24: behind an error of the disk it turned\n%s\nto\n%s", was, s)
	}
	if disk.calls != asked {
		d.t.Fatalf("P24: behind an error the disk was asked %d times more", disk.calls-asked)
	}
}

// P24, P25: an engine that goes on behind an error: while the disk is down or well again, when it has fallen and come again, and when another engine is open over it.
func TestGoesOnBehindError(t *testing.T) {
	t.Parallel()
	everyTrouble(t, func(l []api.Command, i int, d *shaky, e desk, x trouble) {
		e.refuses(d, l[:i], x.says())
		if i%3 > 0 { // the rest takes long
			return
		}
		wants := []state{stateOf(t, l[:i]), stateOf(t, l[:i+1])}
		over(t, d, wants...)
		files := d.outcomes()
		if d.down {
			d.fall(files[len(files)/2])
		}
		other := open(t, d)
		which := other.isOne(wants...)
		e.refuses(d, l[:i], x.says())
		if s := other.all(); s != wants[which].all {
			t.Fatalf("P24: one that had an error turned another\n%s\nto\n%s", wants[which].all, s)
		}
		other.well(other.e.Seed(77), other.e.Tick(1))
		e.refuses(d, l[:i], x.says())
		over(t, d, stateOf(t, append(slices.Clone(l[:i+which]), api.Command{Op: api.Seed, N: 77}, api.Command{Op: api.Tick, N: 1})))
	})
}

// P24: where there is no room and nothing is ready, that is said ahead of any error of the disk.
func TestErrorsAheadOfTheDisk(t *testing.T) {
	var l []api.Command
	for range 6 {
		l = append(l, submission(plainly(nil)), api.Command{Op: api.Poll})
	}
	d, e, _, hit := troubled(t, l, api.Command{Op: api.Tick}, 0, smokes)
	if !hit {
		t.Fatal("P23: Tick did not write")
	}
	e.refuses(d, l, errSmoke)
	e.bad(api.ErrMany, func() error { _, err := e.e.Submit(written(plainly(nil))); return err })
	e.pollNone()
	e.bad(errSmoke, func() error { return e.e.Tick(0) }, func() error { return e.e.Seed(0) }, func() error { return e.e.Beat(1) }, func() error { return e.e.Cancel(6) })
}

// P22, P24: what turns nothing does not ask the disk, well as it is.
func TestWhatDoesNotWrite(t *testing.T) {
	l := script()
	for i := range l {
		d := newShaky(nil)
		e := open(t, d)
		for _, c := range l[:i] {
			e.make(c)
		}
		was, asked := e.all(), d.calls
		for _, c := range probes() {
			if _, turned, _ := afresh(t, l[:i]).make(c); !turned {
				e.make(c)
			}
		}
		if s := e.all(); s != was || d.calls != asked {
			t.Fatalf("P24: calls that are refused turned\n%s\nto\n%s\nand asked the disk %d times", was, s, d.calls-asked)
		}
	}
}

// falls: Open over the disk, with each trouble at each of its calls that write, and that again so many times, comes to one of these states.
func falls(t *testing.T, d *shaky, depth int, wants ...state) {
	t.Helper()
	for _, x := range []trouble{goesDown, isFull, smokes, halves} {
		for left := 0; ; left++ {
			d := d.copy()
			d.expect(left, x)
			e, err := flowkeeper.Open(d)
			if d.next != none {
				which := desk{t, e}.isOne(wants...)
				d.next = none
				for _, files := range d.outcomes() {
					open(t, newShaky(files)).isOne(wants[which])
				}
				break
			}
			if e != nil || err != x.says() {
				t.Fatalf("P24, P26: Open = %v, %v, want %v", e, err, x.says())
			}
			if depth == 0 {
				continue
			}
			if !d.down {
				falls(t, d, depth-1, wants...)
			}
			for i, files := range d.outcomes() {
				if i%11 == 0 {
					falls(t, newShaky(files), depth-1, wants...)
				}
			}
		}
	}
}

// P26: the disk gets into trouble within Open, several times, behind any trouble within any call.
func TestTroubleInOpen(t *testing.T) {
	t.Parallel()
	everyTrouble(t, func(l []api.Command, i int, d *shaky, e desk, x trouble) {
		wants := []state{{all: afresh(t, l[:i]).all()}, {all: afresh(t, l[:i+1]).all()}}
		if !d.down {
			falls(t, d, 2, wants...)
		}
		all := d.outcomes()
		for k, files := range all {
			if k%max(9, len(all)/9) == 0 { // more take long
				falls(t, newShaky(files), 1, wants...)
			}
		}
	})
	falls(t, newShaky(nil), 2, stateOf(t, nil))
}

// anyCommand: a call of any kind, most often one that turns something.
func anyCommand(r *rand.Rand, last uint64) api.Command {
	n := uint64(r.Int64N(5))
	n = last - min(last, n)
	switch r.IntN(18) {
	case 16, 17:
		return api.Command{Op: snapshot}
	case 0, 1:
		return submission(tightFlow(r, 5))
	case 2:
		return api.Command{Op: api.Cancel, N: uint64(r.IntN(9))}
	case 3:
		return api.Command{Op: api.Seed, N: any64(r)}
	case 4, 5:
		return api.Command{Op: api.Beat, N: n}
	case 6, 7:
		return api.Command{Op: api.Complete, N: n}
	case 8, 9:
		return api.Command{Op: api.Fail, N: n}
	case 10, 11, 12:
		return api.Command{Op: api.Tick, N: uint64(r.IntN(6))}
	}
	return api.Command{Op: api.Poll}
}

// life is a disk that falls time and again, and the calls that count.
type life struct {
	t    *testing.T
	r    *rand.Rand
	d    *shaky
	made []api.Command
	like desk // behind the same calls, and never opened anew
}

// begin opens an engine, whatever the disk does meanwhile. If one call more may count, made has it or not then.
func (f *life) begin(last ...api.Command) desk {
	for {
		f.upset(2)
		e, err := flowkeeper.Open(f.d)
		f.settle()
		if err != nil {
			continue
		}
		d := desk{f.t, e}
		more := append(slices.Clone(f.made), last...)
		a, b := afresh(f.t, f.made), afresh(f.t, more)
		f.like = a
		if d.isOne(state{all: a.all()}, state{all: b.all()}) > 0 {
			f.made, f.like = more, b
		}
		return d
	}
}

// upset: now and then there is to be trouble.
func (f *life) upset(one int) {
	f.d.next = none
	if f.r.IntN(one) == 0 {
		f.d.expect(f.r.IntN(2), trouble(1+f.r.IntN(4)))
	}
}

// settle: what went down comes up, with whatever of its files; and now and then the power fails all the same.
func (f *life) settle() {
	if f.d.down || f.r.IntN(4) == 0 {
		l := f.d.outcomes()
		f.d.fall(l[f.r.IntN(len(l))])
	}
}

// P23 to P27: engines one behind the other over a disk that falls in all ways.
func TestLives(t *testing.T) {
	t.Parallel()
	longest := 0
	for round := range uint64(150) {
		r := rand.New(rand.NewPCG(round, 61))
		f := &life{t: t, r: r, d: newShaky(nil)}
		e := f.begin()
		for range 120 {
			last := uint64(len(f.made))
			c := anyCommand(r, last*2/5)
			f.upset(9)
			got, turned, err := e.make(c)
			if err == nil || !slices.Contains([]error{api.ErrDown, api.ErrFull, errSmoke}, err) {
				if want, _, _ := f.like.make(c); got != want || e.all() != f.like.all() {
					t.Fatalf("round %d: %+v says %s, want %s; it is\n%s\nand should be\n%s", round, c, got, want, e.all(), f.like.all())
				}
				if turned {
					f.made = append(f.made, c)
				}
				if n := size(f.d.durable); c.Op == snapshot && n > 4000 {
					t.Fatalf("P27: round %d: behind a snapshot %d bytes are durable", round, n)
				}
				if r.IntN(9) == 0 { // the engine ends without a fault
					f.settle()
					e = f.begin()
				}
				continue
			}
			if e.all() != f.like.all() {
				t.Fatalf("P24: round %d: %+v had an error, and it turned", round, c)
			}
			f.settle()
			e = f.begin(c)
		}
		longest = max(longest, len(f.made))
		over(t, f.d, stateOf(t, f.made))
	}
	if longest < 60 {
		t.Errorf("no more than %d calls counted", longest)
	}
}

// P23, P27: engines that are written and opened anew time and again, against lists.
func TestOpenedAnew(t *testing.T) {
	t.Parallel()
	for round := range uint64(120) {
		r := rand.New(rand.NewPCG(round, 67))
		d := newShaky(nil)
		b := &both{desk: open(t, d), m: &lists{}}
		most := []int{1, 2, 3, 5, 20, 1 << 10}[round%6]
		if round%10 == 9 {
			b.tickAny(end - uint64(r.IntN(10*most)))
		}
		for range 150 {
			b.anyCall(r, most)
			if r.IntN(4) == 0 {
				b.same("snapshot", b.e.Snapshot(), nil)
			}
			for r.IntN(3) == 0 {
				l := d.outcomes()
				d.fall(l[r.IntN(len(l))])
				b.desk = open(t, d)
				b.same("open", "", "")
			}
		}
	}
}

// everything that the host says.
func everything(h *plain.Host) string {
	now, seed := h.Clock()
	s := fmt.Sprintln("clock", now, seed, "timers", h.Timers(), "queue", h.Queue())
	l, _ := h.Runs(0)
	for _, n := range l {
		x, e := h.Query(n)
		if e != api.OK {
			return fmt.Sprintln("run", n, e)
		}
		s += fmt.Sprintln(x, nil)
	}
	return s
}

// P23 to P27: over the disk of package plain, which goes down or is full.
func TestTroubleOverPlain(t *testing.T) {
	t.Parallel()
	do := func(h *plain.Host, c api.Command, f plain.Fall) (e api.Errno) {
		switch c.Op {
		case api.Submit:
			_, e, _ = h.Submit([]byte(c.Data), f)
		case api.Poll:
			_, _, e = h.Poll(f)
		case snapshot:
			e = h.Snapshot(f)
		default:
			e = h.Do(c.Op, c.N, f)
		}
		return e
	}
	well := plain.Well()
	l := script()
	try := func(i int, f, g plain.Fall) {
		h := plain.NewHost()
		if e := h.Open(well); e != api.OK {
			t.Fatalf("P11: Open = %d", e)
		}
		for _, c := range l[:i] {
			do(h, c, well)
		}
		h.Lose(f.Kept, f.Part)
		h.Open(well)
		none, done := afresh(t, l[:i]), afresh(t, l[:i+1])
		was, is := everything(h), none.all()
		e := do(h, l[i], f)
		bad := e == api.ErrDown || e == api.ErrFull
		if h.Is() && bad {
			is = everything(h)
		}
		if g.Left != 7 || !h.Is() {
			h.Lose(f.Kept, f.Part)
			if e := h.Open(g); e != api.OK && e != api.ErrDown && e != api.ErrFull {
				t.Fatalf("P26: Open = %d", e)
			}
			h.Lose(g.Kept, g.Part)
		}
		if e := h.Open(well); e != api.OK {
			t.Fatalf("P23: Open = %d", e)
		}
		if s := everything(h); s != done.all() && (!bad || s != none.all()) || was != none.all() || is != none.all() {
			t.Fatalf("P23 to P26: call %d, %+v, then %+v: %d\n%s\nthen\n%s\nthen\n%s\nbetween\n%s\nand\n%s", i, f, g, e, was, is, s, none.all(), done.all())
		}
	}
	for i := range l {
		for left := range 5 {
			for kept := range 4 {
				for _, part := range []int{0, 1, 8, 15, 50, 99, 100} {
					try(i, plain.Fall{Left: left, Full: -1, Kept: kept, Part: part}, plain.Fall{Left: left % 2, Full: -1, Kept: kept / 2, Part: part})
					try(i, plain.Fall{Left: -1, Full: left, Kept: kept, Part: part}, plain.Fall{Left: []int{-1, 7}[kept%2], Full: left / 2, Kept: kept, Part: part})
				}
			}
		}
	}
}

// P23, P25: a call was refused because it could not be made durable, but it stands in the file: an engine that has opened over it was one with it, so whatever is lost behind that, it counts.
func TestOpenSettles(t *testing.T) {
	seed := api.Command{Op: api.Seed, N: 3}
	d, e, _, hit := troubled(t, nil, seed, 1, isFull)
	if _, was := e.e.Clock(); !hit || was != 0 || len(d.outcomes()) < 2 {
		t.Fatalf("P24: the seed is %d; told the disk: %v", was, d.pending)
	}
	if _, is := open(t, d).e.Clock(); is != 3 {
		t.Fatalf("P25: the seed is %d", is)
	}
	over(t, d, stateOf(t, []api.Command{seed}))
}

// P23: many that fell, each behind a part of what it wrote: the beginnings stay in the file, and what counts stands between them.
func TestBeginnings(t *testing.T) {
	l := script()
	for step := 1; step < 40; step++ {
		d := newShaky(nil)
		var made []api.Command
		for i, c := range l {
			e := open(t, d)
			if _, turned, _ := afresh(t, made).make(c); !turned {
				continue
			}
			d.expect(0, goesDown)
			e.make(c)
			files := d.outcomes()
			d.fall(files[step*i%len(files)])
			if e := open(t, d); e.isOne(state{all: afresh(t, made).all()}, state{all: afresh(t, append(slices.Clone(made), c)).all()}) > 0 {
				made = append(made, c)
			}
		}
		over(t, d, stateOf(t, made))
	}
}

// partly is a disk of which one kind of call says an error.
type partly struct {
	*shaky
	read, sync, add, write, names, remove error
}

func (d partly) Read(name string) ([]byte, error) {
	if d.read != nil {
		return nil, d.read
	}
	return d.shaky.Read(name)
}

func (d partly) Append(name string, data []byte) error {
	if d.add != nil {
		return d.add
	}
	return d.shaky.Append(name, data)
}

func (d partly) Sync() error {
	if d.sync != nil {
		return d.sync
	}
	return d.shaky.Sync()
}

func (d partly) Write(name string, data []byte) error {
	if d.write != nil {
		return d.write
	}
	return d.shaky.Write(name, data)
}

func (d partly) Names() ([]string, error) {
	if d.names != nil {
		return nil, d.names
	}
	return d.shaky.Names()
}

func (d partly) Remove(name string) error {
	if d.remove != nil {
		return d.remove
	}
	return d.shaky.Remove(name)
}

// P11, P24: an error of the disk is handed out as it is, whichever of its calls says it; a file that is not there is none, however the disk says so.
func TestErrorsOfTheDisk(t *testing.T) {
	for _, want := range []error{api.ErrDown, api.ErrFull, api.ErrNone, api.ErrToken, errSmoke, &api.Fault{Err: api.ErrFull, At: 3}} {
		d := newShaky(nil)
		if e, err := flowkeeper.Open(partly{shaky: d, sync: want}); e != nil || err != want {
			t.Errorf("P11: Open = %v, %v, want %v", e, err, want)
		}
		e := open(t, &partly{shaky: d, add: want})
		e.bad(want, func() error { return e.e.Tick(1) }, func() error { return e.e.Seed(1) })
		late := &partly{shaky: d}
		e = open(t, late)
		late.sync = want
		e.bad(want, func() error { _, err := e.e.Submit(written(row(1))); return err }, func() error { return e.e.Seed(1) })
		late.sync = nil
		e.bad(want, func() error { return e.e.Tick(1) })
		for _, bad := range []partly{{sync: want}, {write: want}, {names: want}, {remove: want}} {
			late := &partly{shaky: newShaky(nil)}
			e := open(t, late)
			e.well(e.e.Seed(3), e.e.Snapshot(), e.e.Seed(4))
			bad.shaky = late.shaky
			*late = bad
			e.bad(want, e.e.Snapshot)
			*late = partly{shaky: late.shaky}
			asked := late.calls
			e.bad(want, e.e.Snapshot, func() error { return e.e.Tick(1) })
			if late.calls != asked {
				t.Errorf("P24: behind an error of Snapshot the disk was asked %d times", late.calls-asked)
			}
			over(t, late.shaky, stateOf(t, []api.Command{{Op: api.Seed, N: 4}}))
		}
	}
	for _, want := range []error{api.ErrDown, api.ErrFull, api.ErrToken, errSmoke, &api.Fault{Err: api.ErrFull, At: 3}} {
		d := newShaky(nil)
		e := open(t, d)
		e.well(e.e.Seed(4))
		if e, err := flowkeeper.Open(partly{shaky: d, read: want}); e != nil || err != want {
			t.Errorf("P11: Open = %v, %v, want %v", e, err, want)
		}
	}
	for _, bare := range []error{api.ErrNone, fmt.Errorf("bare: %w", api.ErrNone), &api.Fault{Err: api.ErrNone}} {
		open(t, partly{shaky: newShaky(nil), read: bare}).isOne(stateOf(t, nil))
	}
}

// sharing is a disk that keeps what it is handed, goes on in it, and hands out what it has.
type sharing struct{ files }

func (d *sharing) Read(name string) ([]byte, error) {
	b, ok := d.all[name]
	if !ok {
		return nil, api.ErrNone
	}
	return b, nil
}

func (d *sharing) Write(name string, data []byte) error {
	d.all[name] = data
	return nil
}

func (d *sharing) Append(name string, data []byte) error {
	if b, ok := d.all[name]; ok {
		data = append(b, data...)
	}
	d.all[name] = data
	return nil
}

// P2: what is handed to a disk is the disk's, and what it hands out is not written into.
func TestDiskThatShares(t *testing.T) {
	d := &sharing{files{all: map[string][]byte{}}}
	honest := &files{all: map[string][]byte{}}
	e, f := open(t, d), open(t, honest)
	for i, c := range script() {
		a, _, _ := e.make(c)
		b, _, _ := f.make(c)
		if i%3 == 0 {
			e = open(t, d)
		}
		if a, b := a+e.all(), b+f.all(); a != b {
			t.Fatalf("P2: call %d:\n%s\nover a disk that shares; else\n%s", i, a, b)
		}
		if a, b := fmt.Sprint(d.all), fmt.Sprint(honest.all); a != b {
			t.Fatalf("P2: call %d: the files are\n%s\nand should be\n%s", i, a, b)
		}
	}
}

// fileOf: the one file that an engine writes behind these calls.
func fileOf(t *testing.T, calls []api.Command) (name string, data []byte) {
	t.Helper()
	d := newShaky(nil)
	e := open(t, d)
	for _, c := range calls {
		e.make(c)
	}
	if len(d.durable) != 1 {
		t.Fatalf("files: %q", d.durable)
	}
	for n, s := range d.durable {
		name, data = n, []byte(s)
	}
	return name, data
}

// steady: whatever is in the file, an engine opens over it, and what it says is durable.
func steady(t *testing.T, name string, data []byte, calls ...api.Command) {
	t.Helper()
	d := newShaky(map[string]string{name: string(data)})
	e := open(t, d)
	for i := 0; ; i++ {
		for _, files := range d.outcomes() {
			open(t, newShaky(files)).isOne(state{all: e.all()})
		}
		if i == len(calls) {
			return
		}
		if _, _, err := e.make(calls[i]); err == api.ErrDown || err == api.ErrFull {
			t.Fatalf("P24: %v of a disk that is well", err)
		}
	}
}

// P1: bytes that no engine wrote: Open ends, and does not panic.
func TestOpenOfRot(t *testing.T) {
	name, data := fileOf(t, script())
	for i := range data {
		for _, x := range []byte{1, 0x80, 0xff} {
			rot := slices.Clone(data)
			rot[i] ^= x
			steady(t, name, rot)
		}
		steady(t, name, data[i:], api.Command{Op: api.Seed, N: 9})
	}
	steady(t, name, append([]byte{0, 0, 0xc5, 0x9d, 0x1c, 0x81}, data...), api.Command{Op: api.Poll}) // whole, and nothing
}

// P1, P23: the same of whatever stands behind a beginning of a file that engines wrote.
func FuzzOpen(f *testing.F) {
	f.Add([]byte{}, uint64(1))
	f.Add([]byte{1, 0, 2, 5, 0, 0, 1}, uint64(300))
	f.Fuzz(func(t *testing.T, more []byte, n uint64) {
		name, data := fileOf(t, script())
		data = append(data[:n%uint64(len(data)+1)], more...)
		r := rand.New(rand.NewPCG(n, 71))
		var calls []api.Command
		for range 5 {
			calls = append(calls, anyCommand(r, n%16))
		}
		steady(t, name, data, calls...)
	})
}
