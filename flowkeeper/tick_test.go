package flowkeeper_test

import (
	"fmt"
	"math"
	"slices"
	"testing"

	"flowkeeper/api"
	"flowkeeper/flowkeeper"
)

// P20: the end of a task, the end of the time for a sign, and the end of a rest, just ahead of their times and at them.
func TestTimesOfTasks(t *testing.T) {
	f := plainly(nil)
	f.Nodes[0].Close = 20
	f.Nodes[0].Beat = 8
	d := newDesk(t)
	d.submit(f)
	d.poll("{1 0 1 1}")
	d.well(d.e.Tick(7))
	d.says(1, "1 [3] [1]")
	d.well(d.e.Tick(1)) // no sign
	d.says(1, "1 [4] [1]")
	d.due("[{1 0 18} {1 -1 1000}]")
	d.well(d.e.Tick(9))
	d.pollNone()
	d.well(d.e.Tick(1))
	d.poll("{1 0 2 2}")
	for range 3 {
		d.well(d.e.Tick(5), d.e.Beat(2))
	}
	d.well(d.e.Tick(4))
	d.says(1, "1 [3] [2]")
	d.well(d.e.Tick(1)) // its end, signs or not
	d.says(1, "3 [6] [2]")
}

// P20: a Tick of 0 lets no time pass.
func TestTickOfNothing(t *testing.T) {
	d := mixed(t)
	was := d.all()
	d.well(d.e.Tick(0))
	if now := d.all(); now != was {
		t.Errorf("P20: Tick of 0: %s to %s", was, now)
	}
}

// P20: the end and the sign of life are due at once: the node fails once.
func TestEndAndSignAtOnce(t *testing.T) {
	d := newDesk(t)
	f := plainly(nil)
	f.Nodes[0] = api.Node{Budget: 3, Close: 6, Beat: 6, Base: 4, Cap: 4}
	d.submit(f)
	d.poll("{1 0 1 1}")
	d.due("[{1 0 6} {1 0 6} {1 -1 1000}]")
	d.well(d.e.Tick(6))
	d.says(1, "1 [4] [1]")
	d.due("[{1 0 10} {1 -1 1000}]")
	d.well(d.e.Tick(4))
	d.poll("{1 0 2 2}")
	d.well(d.e.Tick(3), d.e.Beat(2))
	d.due("[{1 0 16} {1 0 19} {1 -1 1000}]")
	d.well(d.e.Tick(20))
	d.says(1, "1 [2] [2]")
}

// P20: at the same time the end of a task comes ahead of what was set behind it, as a sign of life of its own that was put off.
func TestEndAheadOfSign(t *testing.T) {
	d := newDesk(t)
	f := plainly(nil, nil)
	f.Nodes[0].Close, f.Nodes[0].Beat = 8, 5
	f.Nodes[1].Close = 6
	d.submit(f)
	d.poll("{1 0 1 1}")
	d.well(d.e.Tick(2))
	d.poll("{1 1 1 2}")
	d.well(d.e.Tick(1), d.e.Beat(1))
	d.due("[{1 0 8} {1 1 8} {1 0 8} {1 -1 1000}]")
	d.well(d.e.Tick(15)) // both failed at 8, and are ready again from 18 on
	d.ready("[{1 0 2 0} {1 1 2 0}]")
}

// P15, P20: a sign of life is set anew by each Beat: it stands behind what was set meanwhile.
func TestBeatIsSetAnew(t *testing.T) {
	f := plainly(nil, nil, nil)
	f.Nodes[0].Beat = 5
	f.Nodes[1].Beat = 5
	f.Nodes[2].Beat = 5
	for _, c := range []struct {
		beats []uint64
		want  string
	}{
		{nil, "[{1 0 2 0} {1 1 2 0} {1 2 2 0}]"},
		{[]uint64{1}, "[{1 1 2 0} {1 2 2 0} {1 0 2 0}]"},
		{[]uint64{2}, "[{1 0 2 0} {1 2 2 0} {1 1 2 0}]"},
		{[]uint64{3, 2, 1}, "[{1 2 2 0} {1 1 2 0} {1 0 2 0}]"},
		{[]uint64{1, 2, 3, 1}, "[{1 1 2 0} {1 2 2 0} {1 0 2 0}]"},
	} {
		d := newDesk(t)
		d.submit(f)
		for i := range uint64(3) {
			d.poll(fmt.Sprintf("{1 %d 1 %d}", i, i+1))
		}
		for _, n := range c.beats {
			d.well(d.e.Beat(n))
		}
		d.well(d.e.Tick(15))
		d.ready(c.want)
	}
}

// P20: those due at the same time happen as they were set: ends, signs, rests and deadlines, of several runs.
func TestOrderAtOneTime(t *testing.T) {
	d := newDesk(t)
	f := plainly(nil, nil, nil)
	f.Nodes[1].Close = 16 // its end is set at 4, for 20
	f.Nodes[2].Beat = 12  // its sign is set at 8, for 20
	d.submit(f)
	d.poll("{1 0 1 1}")
	d.well(d.e.Tick(4))
	d.poll("{1 1 1 2}")
	d.well(d.e.Tick(4))
	d.poll("{1 2 1 3}")
	g := plainly(nil)
	g.Deadline = 12 // set at 8, for 20
	d.submit(g)
	d.well(d.e.Tick(2), d.e.Fail(1)) // its rest is set at 10, for 20
	d.due("[{1 1 20} {1 2 20} {2 -1 20} {1 0 20} {1 2 108} {1 -1 1000}]")
	d.well(d.e.Tick(20))
	d.says(2, "5 [7] [0]")
	d.ready("[{1 0 2 0} {1 1 2 0} {1 2 2 0}]") // ready at 20; those that failed at 20 at 30, in their order
}

// P20: a deadline comes ahead of all of its run that is due at the same time, and takes it with it.
func TestDeadlineAheadOfItsRun(t *testing.T) {
	for _, c := range []struct {
		what string
		n    api.Node
	}{
		{"the end", api.Node{Budget: 1, Close: 9, Base: 1, Cap: 1}},
		{"the end, to be tried again", api.Node{Budget: 2, Close: 9, Base: 1, Cap: 1}},
		{"the sign", api.Node{Budget: 1, Close: 20, Beat: 9, Base: 1, Cap: 1}},
	} {
		d := newDesk(t)
		d.submit(api.Flow{Deadline: 9, Nodes: []api.Node{c.n}})
		d.poll("{1 0 1 1}")
		if l := d.e.Timers(); l[0] != (api.Timer{Run: 1, Node: -1, At: 9}) {
			t.Errorf("P20: %s: %v", c.what, l)
		}
		d.well(d.e.Tick(9))
		d.says(1, "5 [7] [1]")
		d.due("[]")
	}
	d := newDesk(t) // a rest
	f := plainly(nil)
	f.Deadline = 10
	d.submit(f)
	d.poll("{1 0 1 1}")
	d.well(d.e.Fail(1))
	d.due("[{1 -1 10} {1 0 10}]")
	d.well(d.e.Tick(10))
	d.says(1, "5 [7] [1]")
	d.ready("[]")
}

// P20: a deadline has no say over what of another run was set ahead of it, or is set behind it.
func TestDeadlineAmongOthers(t *testing.T) {
	d := newDesk(t)
	f, g := plainly(nil, nil), plainly(nil)
	f.Nodes[0].Close = 9
	g.Deadline = 9
	d.submit(f)
	d.poll("{1 0 1 1}")
	d.submit(g)
	d.poll("{1 1 1 2}")
	d.well(d.e.Tick(9))
	d.says(1, "1 [4 3] [1 1]")
	d.says(2, "5 [7] [0]")
	d.due("[{1 0 19} {1 1 100} {1 -1 1000}]")
}

// P20: what is due happens at its own time, not at the new one: it sets other times from there, and these come in the same Tick.
func TestSetWithinTick(t *testing.T) {
	d := newDesk(t)
	f := plainly(nil, nil, nil, []int{0})
	f.Nodes[0] = api.Node{Budget: 5, Close: 10, Base: 5, Cap: 100}
	f.Nodes[1] = api.Node{Budget: 5, Close: 13, Base: 1, Cap: 1}
	f.Nodes[2] = api.Node{Budget: 1, Close: 12, Base: 5, Cap: 5}
	d.submit(f)
	for i := range uint64(3) {
		d.poll(fmt.Sprintf("{1 %d 1 %d}", i, i+1))
	}
	d.well(d.e.Tick(14)) // node 0 rests from 10 to 15, node 1 from 13 to 14, node 2 is dead at 12
	d.says(1, "1 [4 2 6 1] [1 1 1 0]")
	d.due("[{1 0 15} {1 -1 1000}]")
	d.well(d.e.Tick(500))
	d.ready("[{1 1 2 0} {1 0 2 0}]")
	if now, _ := d.e.Clock(); now != 514 {
		t.Errorf("P22: the time is %d", now)
	}
	d.well(d.e.Tick(1000)) // nothing is polled, so only the deadline is left
	d.says(1, "5 [7 7 6 7] [1 1 1 0]")
}

// P20: a jump over all is the same as steps of one.
func TestJumpIsSteps(t *testing.T) {
	for _, ticks := range []uint64{1, 2, 3, 7, 10, 64, 300} {
		d, s := mixed(t), mixed(t)
		d.well(d.e.Tick(ticks))
		for range ticks {
			s.well(s.e.Tick(1))
		}
		if a, b := d.all(), s.all(); a != b {
			t.Errorf("P20: %d ticks at once:\n%s\none by one:\n%s", ticks, a, b)
		}
	}
}

// P20: the last time is 2^62: it is not passed, and what would be due behind it is due then.
func TestEnginesEndOfTime(t *testing.T) {
	for _, ticks := range []uint64{end, end + 1, 1 << 63, math.MaxUint64} {
		d := newDesk(t)
		d.submit(plainly(nil))
		d.well(d.e.Tick(ticks))
		if now, _ := d.e.Clock(); now != end {
			t.Errorf("P20: Tick(%d): the time is %d", ticks, now)
		}
		d.says(1, "5 [7] [0]")
		d.well(d.e.Tick(ticks), d.e.Tick(1))
		if now, _ := d.e.Clock(); now != end {
			t.Errorf("P20: Tick(%d) again: the time is %d", ticks, now)
		}
	}
	d := newDesk(t)
	d.well(d.e.Tick(end - 5))
	f := plainly(nil)
	f.Nodes[0].Beat = 5
	d.submit(f)
	d.submit(plainly(nil))
	d.poll("{1 0 1 1}")
	d.poll("{2 0 1 2}")
	d.due(fmt.Sprintf("[{1 -1 %d} {2 -1 %[1]d} {1 0 %[1]d} {1 0 %[1]d} {2 0 %[1]d}]", end))
	d.well(d.e.Tick(4), d.e.Fail(2))
	d.due(fmt.Sprintf("[{1 -1 %d} {2 -1 %[1]d} {1 0 %[1]d} {1 0 %[1]d} {2 0 %[1]d}]", end))
	d.says(1, "1 [3] [1]")
	d.says(2, "1 [4] [1]")
	d.well(d.e.Tick(1))
	d.says(1, "5 [7] [1]")
	d.says(2, "5 [7] [1]")
	d.due("[]")
}

// P20: at 2^62 all is due at once, and happens when 0 ticks pass: the deadline first, as it was set first.
func TestAtTheEndOfTime(t *testing.T) {
	d := newDesk(t)
	d.well(d.e.Tick(math.MaxUint64))
	f := plainly(nil, nil)
	f.Nodes[1].Beat = 1
	d.submit(f)
	d.poll("{1 0 1 1}")
	d.poll("{1 1 1 2}")
	d.well(d.e.Beat(2), d.e.Fail(1))
	d.due(fmt.Sprintf("[{1 -1 %d} {1 1 %[1]d} {1 1 %[1]d} {1 0 %[1]d}]", end))
	d.well(d.e.Tick(0))
	d.says(1, "5 [7 7] [1 1]")
	d.due("[]")
	n := d.submit(plainly(nil)) // a run may end there by its tasks too
	d.poll("{2 0 1 3}")
	d.well(d.e.Complete(3))
	d.says(n, "2 [5] [1]")
}

// P22: Runs is never nil; each range begins anew, over what is known then, and ends when it is told to.
func TestWalkOverRuns(t *testing.T) {
	d := many(t)
	walk := d.e.Runs()
	some := func(most int) []uint64 {
		var l []uint64
		for n := range walk {
			l = append(l, n)
			if len(l) == most {
				break
			}
		}
		return l
	}
	for most, want := range [][]uint64{{1, 2, 3, 4, 5, 6}, {1}, {1, 2}, {1, 2, 3}, {1, 2, 3, 4}, {1, 2, 3, 4, 5}, {1, 2, 3, 4, 5, 6}} {
		if l := some(most); !slices.Equal(l, want) {
			t.Errorf("P22: Runs, left behind %d: %v", most, l)
		}
	}
	d.well(d.e.Cancel(2))
	d.submit(plainly(nil))
	if l := some(0); !slices.Equal(l, []uint64{1, 3, 4, 5, 6, 7}) {
		t.Errorf("P22: Runs: %v", l)
	}
	count := 0
	walk(func(uint64) bool { count++; return false })
	for a := range walk {
		for b := range walk {
			count++
			if b > a {
				break
			}
		}
	}
	if want := 1 + 2 + 3 + 4 + 5 + 6 + 6; count != want {
		t.Errorf("P22: Runs, one walk within another: %d steps, want %d", count, want)
	}
}

// P1, P22: who walks may call the engine meanwhile.
func TestCallsWithinWalk(t *testing.T) {
	d := many(t)
	var l []uint64
	for n := range d.e.Runs() {
		l = append(l, n)
		d.well(d.e.Cancel(n))
		d.submit(plainly(nil))
	}
	if want := []uint64{1, 2, 3, 4, 5, 6}; !slices.Equal(l, want) {
		t.Errorf("P22: Runs: %v, want %v", l, want)
	}
	if want := []uint64{7, 8, 9, 10, 11, 12}; !slices.Equal(d.runs(), want) {
		t.Errorf("P12: Runs: %v, want %v", d.runs(), want)
	}
}

// P2: what comes out is new and the caller's.
func TestWhatAnEngineHandsOut(t *testing.T) {
	d := mixed(t)
	was := d.all()
	x, _ := d.e.Query(1)
	y, _ := d.e.Query(1)
	l, q := d.e.Timers(), d.e.Queue()
	for _, list := range [][]int{x.Nodes, x.Tries} {
		for i := range list[:cap(list)] {
			list[:cap(list)][i] = 77
		}
	}
	for i := range l[:cap(l)] {
		l[:cap(l)][i].At = 77
	}
	for i := range q[:cap(q)] {
		q[:cap(q)][i].Run = 77
	}
	if now := d.all(); now != was {
		t.Errorf("P2: lists of the caller's turn\n%s\nto\n%s", was, now)
	}
	if s := fmt.Sprint(y); s != "{1 1 [5 6 2 3 4 7 1] [1 1 1 1 1 0 0]}" {
		t.Errorf("P2: one answer hangs on another: %s", s)
	}
}

// P2: what is handed in is read, not kept, and not written into.
func TestBytesHandedIn(t *testing.T) {
	d := newDesk(t)
	b := written(plainly(nil, []int{0}, []int{0, 1}))
	own := slices.Clone(b)
	if _, err := d.e.Submit(own[:len(own):len(own)]); err != nil || !slices.Equal(own, b) {
		t.Errorf("P2: bytes handed in are %x, %v", own, err)
	}
	for i := range own {
		own[i] = 0xff
	}
	d.poll("{1 0 1 1}")
	d.well(d.e.Complete(1))
	d.poll("{1 1 1 2}")
	d.well(d.e.Fail(2), d.e.Tick(10))
	d.poll("{1 1 2 3}")
	d.well(d.e.Complete(3))
	d.ready("[{1 2 1 0}]")
}

// P2: engines over different disks know nothing of one another.
func TestEnginesApart(t *testing.T) {
	a, b := newDesk(t), mixed(t)
	was := b.all()
	a.submit(plainly(nil, nil))
	a.poll("{1 0 1 1}")
	a.well(a.e.Seed(9), a.e.Tick(50), a.e.Complete(1), a.e.Cancel(1), a.e.Tick(math.MaxUint64))
	if now := b.all(); now != was {
		t.Errorf("P2: one engine turns another: %s to %s", was, now)
	}
	if s := newDesk(t).all(); s != newDesk(t).all() || len(s) > 40 {
		t.Errorf("P11: a new engine: %s", s)
	}
}

// P1: engines that Open did not make: no call panics.
func TestEnginesOfNobody(t *testing.T) {
	for _, e := range []*flowkeeper.Engine{nil, {}} {
		d := desk{t, e}
		n, err := e.Submit(written(row(1)))
		if n != 0 || err != api.ErrDown {
			t.Errorf("P1: Submit = %d, %v", n, err)
		}
		if _, err := e.Submit(nil); told(t, err) != said(api.ErrFlow, 0) {
			t.Errorf("P12: Submit of no bytes: %v", err)
		}
		d.bad(api.ErrDown, func() error { return e.Tick(1) }, func() error { return e.Seed(1) }, e.Snapshot)
		d.pollNone()
		d.noToken(0, 1)
		d.bad(api.ErrRun, func() error { return e.Cancel(1) }, func() error { _, err := e.Query(1); return err })
		if e.Runs() == nil || d.runs() != nil || e.Timers() != nil || e.Queue() != nil {
			t.Errorf("P1: %s", d.all())
		}
	}
}
