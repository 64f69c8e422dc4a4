package flowkeeper_test

import (
	"errors"
	"fmt"
	"math"
	"slices"
	"testing"

	"flowkeeper/api"
	"flowkeeper/flowkeeper"
)

// The third of the document's examples.
func TestExampleOfEngine(t *testing.T) {
	f := api.Flow{Deadline: 100, Nodes: []api.Node{
		{Budget: 2, Close: 9, Base: 3, Cap: 9},
		{Budget: 1, Close: 9, Base: 1, Cap: 1, After: []int{0}},
	}}
	for _, again := range []bool{false, true} {
		d := newDesk(t)
		n := d.submit(f)
		d.ready("[{1 0 1 0}]")
		d.poll("{1 0 1 1}")
		d.well(d.e.Fail(1))
		d.due("[{1 0 3} {1 -1 100}]")
		d.well(d.e.Tick(2))
		d.pollNone()
		d.well(d.e.Tick(1))
		d.poll("{1 0 2 2}")
		if again {
			d.well(d.e.Fail(2))
			d.says(n, "3 [6 7] [2 0]")
			continue
		}
		d.well(d.e.Complete(2))
		d.poll("{1 1 1 3}")
		d.well(d.e.Complete(3))
		d.says(n, "2 [5 5] [2 1]")
	}
}

// P11: without runs, at the time 0, with the seed 0.
func TestOpen(t *testing.T) {
	d := newDesk(t)
	if now, seed := d.e.Clock(); now != 0 || seed != 0 {
		t.Errorf("P11: Clock = %d, %d", now, seed)
	}
	if l, q := d.e.Timers(), d.e.Queue(); l != nil || q != nil {
		t.Errorf("P2, P11: Timers = %#v, Queue = %#v", l, q)
	}
	if d.e.Runs() == nil || d.runs() != nil {
		t.Errorf("P11, P22: Runs = %v", d.runs())
	}
	d.pollNone()
	d.noToken(0, 1, math.MaxUint64)
	for _, n := range []uint64{0, 1, math.MaxUint64} {
		d.bad(api.ErrRun, func() error { return d.e.Cancel(n) })
		if x, err := d.e.Query(n); err != api.ErrRun || fmt.Sprint(x) != fmt.Sprint(api.Info{}) {
			t.Errorf("P22: Query(%d) = %v, %v", n, x, err)
		}
	}
}

// P11: what the disk says is said as it is, and there is no engine.
func TestOpenOfBadDisk(t *testing.T) {
	for _, said := range []error{api.ErrDown, api.ErrFull, api.ErrNone, errors.New("smoke")} {
		if e, err := flowkeeper.Open(&files{err: said}); e != nil || err != said {
			t.Errorf("P11: Open = %v, %v, want %v", e, err, said)
		}
	}
	if e, err := flowkeeper.Open(nil); e != nil || err != api.ErrDown {
		t.Errorf("P1: Open of no disk: %v, %v", e, err)
	}
}

// P12: what P5 says of the bytes, ahead of all else; and then nothing turns.
func TestSubmitOfNoFlow(t *testing.T) {
	b := written(full())
	wrong := [][]byte{nil, {}, {1, 0}, append(slices.Clone(b), 0), written(row(13)), written(waits([]int{1}, []int{0})), written(waits([]int{1}))}
	for n := range len(b) {
		wrong = append(wrong, b[:n])
	}
	d := newDesk(t)
	check := func() {
		t.Helper()
		was := d.all()
		for _, w := range wrong {
			_, want := flowkeeper.Decode(w)
			if n, err := d.e.Submit(w); n != 0 || told(t, err) != told(t, want) || err == nil {
				t.Errorf("P12: Submit(%x) = %d, %v, want %v", w, n, err, want)
			}
		}
		if now := d.all(); now != was {
			t.Errorf("P12: no flow turned\n%s\nto\n%s", was, now)
		}
	}
	check()
	for i := range uint64(6) {
		if n := d.submit(full()); n != i+1 {
			t.Errorf("P12: run %d is %d", i+1, n)
		}
		check()
	}
	d.well(d.e.Cancel(3))
	check()
}

// P12: a run, and what it begins with.
func TestSubmit(t *testing.T) {
	d := newDesk(t)
	d.well(d.e.Tick(7))
	f := plainly(nil, []int{0}, []int{3}, nil)
	f.Deadline = 55
	n := d.submit(f)
	d.says(n, "1 [2 1 1 2] [0 0 0 0]")
	d.due("[{1 -1 62}]")
	d.ready("[{1 0 1 0} {1 3 1 0}]")
	if m := d.submit(row(1)); n != 1 || m != 2 {
		t.Errorf("P12: runs %d, %d, want 1, 2", n, m)
	}
	d.due("[{2 -1 8} {1 -1 62}]")
}

// many: a desk with six runs that are known and none ended.
func many(t *testing.T) desk {
	t.Helper()
	d := newDesk(t)
	for range 6 {
		d.submit(plainly(nil))
	}
	return d
}

// P12: six are known and none has ended: there is no room; one that is at work, rests or is tried again has not ended.
func TestSubmitOfSeventh(t *testing.T) {
	d := many(t)
	full := func() {
		t.Helper()
		d.bad(api.ErrMany, func() error {
			n, err := d.e.Submit(written(plainly(nil)))
			if n != 0 {
				t.Errorf("P1: an error, and run %d", n)
			}
			return err
		})
	}
	full()
	d.poll("{1 0 1 1}")
	d.poll("{2 0 1 2}")
	d.well(d.e.Fail(2), d.e.Beat(1))
	full()
	d.well(d.e.Tick(10))
	full()
	d.well(d.e.Complete(1))
	if n := d.submit(plainly(nil)); n != 7 { // those that found no room had no ids
		t.Errorf("P12: run %d, want 7", n)
	}
	if l := d.runs(); !slices.Equal(l, []uint64{2, 3, 4, 5, 6, 7}) {
		t.Errorf("P12: %v are known", l)
	}
	full()
}

// P12: the one that ended first is known no more, however it ended, and whatever its id.
func TestWhoIsForgotten(t *testing.T) {
	d := newDesk(t)
	hasty := plainly(nil)
	hasty.Deadline = 5
	once := plainly(nil)
	once.Nodes[0].Budget = 1
	d.submit(plainly(nil))
	d.submit(once)
	d.submit(plainly(nil))
	d.submit(hasty)
	d.submit(plainly(nil))
	for i := range uint64(4) {
		d.poll(fmt.Sprintf("{%d 0 1 %[1]d}", i+1))
	}
	d.well(d.e.Complete(3), d.e.Tick(5), d.e.Fail(2), d.e.Cancel(1))
	for i, want := range []string{"[1 2 3 4 5 6]", "[1 2 4 5 6 7]", "[1 2 5 6 7 8]", "[1 5 6 7 8 9]", "[5 6 7 8 9 10]"} {
		was := d.runs()
		d.submit(plainly(nil))
		if l := fmt.Sprint(d.runs()); l != want {
			t.Errorf("P12: submission %d: %s are known, want %s", i, l, want)
		}
		for _, n := range was {
			_, err := d.e.Query(n)
			if known := slices.Contains(d.runs(), n); known != (err == nil) || !known && err != api.ErrRun {
				t.Errorf("P22: Query(%d) = %v", n, err)
			}
			if err != nil {
				d.bad(api.ErrRun, func() error { return d.e.Cancel(n) })
			}
		}
	}
	d.noToken(1, 2, 3, 4)
	d.bad(api.ErrMany, func() error { _, err := d.e.Submit(written(row(1))); return err })
}

// P13: several that are ready at once stand in the order of the nodes, behind all that stand there.
func TestOrderOfQueue(t *testing.T) {
	d := newDesk(t)
	d.submit(plainly([]int{3}, nil, []int{1, 3}, nil, []int{3}, []int{0, 4}))
	d.ready("[{1 1 1 0} {1 3 1 0}]")
	d.poll("{1 1 1 1}")
	d.poll("{1 3 1 2}")
	d.ready("[]")
	d.submit(plainly(nil, nil))
	d.well(d.e.Complete(2))
	d.ready("[{2 0 1 0} {2 1 1 0} {1 0 1 0} {1 4 1 0}]") // node 2 waits for node 1 too
	d.well(d.e.Complete(1))
	d.ready("[{2 0 1 0} {2 1 1 0} {1 0 1 0} {1 4 1 0} {1 2 1 0}]")
	d.says(1, "1 [2 5 2 5 2 1] [0 1 0 1 0 0]")
	d.poll("{2 0 1 3}")
	d.poll("{2 1 1 4}")
	d.poll("{1 0 1 5}")
	d.well(d.e.Complete(5))
	d.ready("[{1 4 1 0} {1 2 1 0}]")
	d.poll("{1 4 1 6}")
	d.well(d.e.Complete(6))
	d.ready("[{1 2 1 0} {1 5 1 0}]")
}

// P13, P17: a node that is ready again stands behind all that are.
func TestReadyAgain(t *testing.T) {
	d := newDesk(t)
	d.submit(plainly(nil, nil, nil))
	d.poll("{1 0 1 1}")
	d.well(d.e.Fail(1))
	d.ready("[{1 1 1 0} {1 2 1 0}]")
	d.well(d.e.Tick(9))
	d.submit(plainly(nil))
	d.well(d.e.Tick(1))
	d.ready("[{1 1 1 0} {1 2 1 0} {2 0 1 0} {1 0 2 0}]")
	d.submit(plainly(nil))
	d.poll("{1 1 1 2}")
	d.poll("{1 2 1 3}")
	d.poll("{2 0 1 4}")
	d.poll("{1 0 2 5}")
	d.poll("{3 0 1 6}")
	d.pollNone()
}

// P14: the end of a task and its sign of life are due; without a Beat only the end.
func TestPoll(t *testing.T) {
	d := newDesk(t)
	f := plainly(nil, nil, nil)
	f.Nodes[0] = api.Node{Budget: 1, Close: 7, Beat: 3, Base: 1, Cap: 1}
	f.Nodes[1] = api.Node{Budget: 1, Close: 5, Base: 1, Cap: 1}
	f.Nodes[2] = api.Node{Budget: 1, Close: 4, Beat: 8, Base: 1, Cap: 1}
	d.submit(f)
	d.well(d.e.Tick(100))
	d.poll("{1 0 1 1}")
	d.says(1, "1 [3 2 2] [1 0 0]")
	d.due("[{1 0 103} {1 0 107} {1 -1 1000}]")
	d.poll("{1 1 1 2}")
	d.due("[{1 0 103} {1 1 105} {1 0 107} {1 -1 1000}]")
	d.poll("{1 2 1 3}")
	d.due("[{1 0 103} {1 2 104} {1 1 105} {1 0 107} {1 2 108} {1 -1 1000}]")
	d.pollNone()
	d.says(1, "1 [3 3 3] [1 1 1]")
}

// P14 to P17: tokens are numbers of their own for each task that is handed out, and are no more when it is over.
func TestTokens(t *testing.T) {
	d := newDesk(t)
	f := plainly(nil, nil, nil, nil, []int{0})
	f.Nodes[1].Close = 6
	f.Nodes[2].Beat = 6
	d.submit(f)
	d.noToken(0, 1, 2)
	for i := range uint64(4) {
		d.poll(fmt.Sprintf("{1 %d 1 %d}", i, i+1))
		d.noToken(0, i+2, math.MaxUint64)
	}
	d.well(d.e.Complete(1))
	d.noToken(1) // done
	d.poll("{1 4 1 5}")
	d.well(d.e.Fail(5))
	d.noToken(5) // at rest
	d.well(d.e.Tick(6))
	d.noToken(2, 3) // its end, and its sign of life
	d.well(d.e.Beat(4))
	d.well(d.e.Tick(4))
	d.poll("{1 4 2 6}")
	d.noToken(5) // at work again, by another
	d.well(d.e.Fail(6))
	d.noToken(6) // dead
	d.well(d.e.Cancel(1))
	d.noToken(4) // its run has ended
	d.submit(plainly(nil))
	d.poll("{2 0 1 7}")
	d.noToken(1, 2, 3, 4, 5, 6, 8)
	d.well(d.e.Complete(7))
}

// P15: the next sign of life is to come within Beat ticks from now; without a Beat nothing turns.
func TestBeat(t *testing.T) {
	d := newDesk(t)
	f := plainly(nil, nil)
	f.Nodes[0].Beat = 4
	d.submit(f)
	d.poll("{1 0 1 1}")
	d.poll("{1 1 1 2}")
	d.due("[{1 0 4} {1 0 100} {1 1 100} {1 -1 1000}]")
	d.well(d.e.Tick(3), d.e.Beat(1))
	d.due("[{1 0 7} {1 0 100} {1 1 100} {1 -1 1000}]")
	was := d.all()
	d.well(d.e.Beat(2))
	if now := d.all(); now != was {
		t.Errorf("P15: a node without a Beat: %s to %s", was, now)
	}
	d.well(d.e.Tick(3))
	d.says(1, "1 [3 3] [1 1]")
	d.well(d.e.Beat(1), d.e.Beat(1))
	d.due("[{1 0 10} {1 0 100} {1 1 100} {1 -1 1000}]")
	d.well(d.e.Tick(4))
	d.says(1, "1 [4 3] [1 1]")
	d.due("[{1 0 20} {1 1 100} {1 -1 1000}]")
}

// P16, P19: what is done is not due any more; others that waited for it are ready; when all are done the run has succeeded.
func TestComplete(t *testing.T) {
	d := newDesk(t)
	f := plainly(nil, []int{0})
	f.Nodes[0].Beat = 4
	d.submit(f)
	d.poll("{1 0 1 1}")
	d.well(d.e.Tick(1), d.e.Complete(1))
	d.says(1, "1 [5 2] [1 0]")
	d.due("[{1 -1 1000}]")
	d.well(d.e.Tick(500))
	d.says(1, "1 [5 2] [1 0]")
	d.poll("{1 1 1 2}")
	d.well(d.e.Complete(2))
	d.says(1, "2 [5 5] [1 1]")
	d.due("[]")
	d.pollNone()
}

// P17: every budget: so many tries, a rest behind each but the last.
func TestBudgets(t *testing.T) {
	for budget := 1; budget <= 5; budget++ {
		d := newDesk(t)
		f := plainly(nil, nil)
		f.Nodes[0] = api.Node{Budget: budget, Close: 50, Beat: 49, Base: 3, Cap: 20, Jitter: 3}
		d.well(d.e.Seed(6))
		d.submit(f)
		d.poll("{1 0 1 1}")
		d.poll("{1 1 1 2}")
		token := uint64(1)
		now := uint64(0)
		for try := 1; try < budget; try++ {
			d.well(d.e.Fail(token))
			d.says(1, fmt.Sprintf("1 [4 3] [%d 1]", try))
			rest := []uint64{5, 8, 14, 22}[try-1] // as the document has it
			now += rest
			timers := []api.Timer{{Run: 1, Node: 0, At: now}, {Run: 1, Node: 1, At: 100}, {Run: 1, Node: -1, At: 1000}}
			d.due(fmt.Sprint(timers))
			d.well(d.e.Tick(rest - 1))
			d.pollNone()
			d.well(d.e.Tick(1))
			d.ready(fmt.Sprintf("[{1 0 %d 0}]", try+1))
			d.says(1, fmt.Sprintf("1 [2 3] [%d 1]", try))
			token = uint64(try + 2)
			d.poll(fmt.Sprintf("{1 0 %d %d}", try+1, token))
		}
		d.well(d.e.Fail(token))
		d.says(1, fmt.Sprintf("1 [6 3] [%d 1]", budget))
		d.due("[{1 1 100} {1 -1 1000}]")
		d.pollNone()
		d.well(d.e.Complete(2))
		d.says(1, fmt.Sprintf("3 [6 5] [%d 1]", budget))
	}
}

// P17: the seed counts that is set when the node fails, whatever it was or will be.
func TestSeed(t *testing.T) {
	d := newDesk(t)
	f := plainly(nil, nil, nil)
	for i := range f.Nodes {
		f.Nodes[i].Jitter = 1000
	}
	d.submit(f)
	d.poll("{1 0 1 1}")
	d.poll("{1 1 1 2}")
	d.poll("{1 2 1 3}")
	d.well(d.e.Seed(7), d.e.Fail(1))
	d.due("[{1 0 17} {1 1 100} {1 2 100} {1 -1 1000}]")
	d.well(d.e.Seed(math.MaxUint64)) // 15 are left of it behind 1001
	d.due("[{1 0 17} {1 1 100} {1 2 100} {1 -1 1000}]")
	if now, seed := d.e.Clock(); now != 0 || seed != math.MaxUint64 {
		t.Errorf("P22: Clock = %d, %d", now, seed)
	}
	d.well(d.e.Fail(2))
	d.due("[{1 0 17} {1 1 25} {1 2 100} {1 -1 1000}]")
	d.well(d.e.Seed(1002), d.e.Tick(100)) // a task whose time is over fails with the seed of that time
	d.due("[{1 2 111} {1 -1 1000}]")
}

// P17: all that wait for what is dead are skipped, by whatever others, ahead of it or behind it; nothing else is.
func TestSkipped(t *testing.T) {
	d := newDesk(t)
	f := plainly([]int{1}, []int{4}, []int{0, 3}, nil, []int{5}, nil, nil, []int{3, 6}, []int{2}, []int{3})
	f.Nodes[5].Budget = 1
	d.submit(f)
	d.poll("{1 3 1 1}")
	d.poll("{1 5 1 2}")
	d.poll("{1 6 1 3}")
	d.well(d.e.Complete(1))
	d.well(d.e.Fail(2))
	d.says(1, "1 [7 7 7 5 7 6 3 1 7 2] [0 0 0 1 0 1 1 0 0 0]")
	d.ready("[{1 9 1 0}]")
	d.well(d.e.Complete(3))
	d.poll("{1 9 1 4}")
	d.poll("{1 7 1 5}")
	d.well(d.e.Complete(5))
	d.says(1, "1 [7 7 7 5 7 6 5 5 7 3] [0 0 0 1 0 1 1 1 0 1]")
	d.well(d.e.Complete(4))
	d.says(1, "3 [7 7 7 5 7 6 5 5 7 5] [0 0 0 1 0 1 1 1 0 1]")
	d.due("[]")
}

// P19: a run has not failed before all of it is over, in whatever order; the last may be done or dead.
func TestFailed(t *testing.T) {
	f := plainly(nil, nil, []int{1}, nil)
	f.Nodes[1].Budget = 1
	f.Nodes[3].Budget = 1
	for _, last := range []string{"done", "dead"} {
		d := newDesk(t)
		d.submit(f)
		d.poll("{1 0 1 1}")
		d.poll("{1 1 1 2}")
		d.poll("{1 3 1 3}")
		d.well(d.e.Fail(2))
		d.says(1, "1 [3 6 7 3] [1 1 0 1]")
		d.well(d.e.Fail(1))
		d.says(1, "1 [4 6 7 3] [1 1 0 1]")
		if last == "dead" {
			d.well(d.e.Fail(3))
			d.says(1, "1 [4 6 7 6] [1 1 0 1]")
		} else {
			d.well(d.e.Complete(3))
			d.says(1, "1 [4 6 7 5] [1 1 0 1]")
		}
		d.well(d.e.Tick(10))
		d.says(1, map[string]string{"dead": "1 [2 6 7 6] [1 1 0 1]", "done": "1 [2 6 7 5] [1 1 0 1]"}[last])
		d.poll("{1 0 2 4}")
		d.well(d.e.Complete(4))
		d.says(1, map[string]string{"dead": "3 [5 6 7 6] [2 1 0 1]", "done": "3 [5 6 7 5] [2 1 0 1]"}[last])
		d.due("[]")
	}
}

// mixed: a desk with two runs, the first with a node of each state that a running run may have, the second in the queue and at work.
func mixed(t *testing.T) desk {
	t.Helper()
	d := newDesk(t)
	f := plainly(nil, nil, nil, nil, nil, []int{1}, []int{0, 2})
	f.Nodes[1].Budget = 1
	f.Nodes[3].Beat = 40
	d.submit(f)
	d.submit(plainly(nil, nil))
	for i := range uint64(4) {
		d.poll(fmt.Sprintf("{1 %d 1 %d}", i, i+1))
	}
	d.well(d.e.Complete(1), d.e.Fail(2), d.e.Fail(3))
	d.ready("[{1 4 1 0} {2 0 1 0} {2 1 1 0}]")
	d.poll("{1 4 1 5}")
	d.poll("{2 0 1 6}")
	d.submit(plainly(nil))
	d.well(d.e.Tick(5), d.e.Fail(5))
	d.well(d.e.Tick(5))
	d.says(1, "1 [5 6 2 3 4 7 1] [1 1 1 1 1 0 0]")
	d.ready("[{2 1 1 0} {3 0 1 0} {1 2 2 0}]")
	d.due("[{1 4 15} {1 3 40} {1 3 100} {2 0 100} {1 -1 1000} {2 -1 1000} {3 -1 1000}]")
	return d
}

// P18, P19: what is cancelled is neither ready nor at work nor due; done and dead nodes stay; other runs stay as they are.
func TestCancelOfRun(t *testing.T) {
	d := mixed(t)
	d.bad(api.ErrRun, func() error { return d.e.Cancel(0) }, func() error { return d.e.Cancel(4) }, func() error { return d.e.Cancel(math.MaxUint64) })
	d.well(d.e.Cancel(1))
	d.says(1, "4 [5 6 7 7 7 7 7] [1 1 1 1 1 0 0]")
	d.says(2, "1 [3 2] [1 0]")
	d.ready("[{2 1 1 0} {3 0 1 0}]")
	d.due("[{2 0 100} {2 -1 1000} {3 -1 1000}]")
	d.noToken(1, 2, 3, 4, 5)
	d.bad(api.ErrRun, func() error { return d.e.Cancel(1) })
	d.poll("{2 1 1 7}")
	d.well(d.e.Cancel(2))
	d.noToken(6, 7)
	d.due("[{3 -1 1000}]")
	d.well(d.e.Cancel(3))
	d.pollNone()
	d.due("[]")
}

// P20, P19: the same of a run that is late.
func TestLate(t *testing.T) {
	d := newDesk(t)
	f := plainly(nil, nil, nil, nil, []int{0}, []int{3})
	f.Deadline = 20
	f.Nodes[3].Budget = 1
	d.submit(f)
	d.submit(plainly(nil))
	for i := range uint64(4) {
		d.poll(fmt.Sprintf("{1 %d 1 %d}", i, i+1))
	}
	d.well(d.e.Complete(1), d.e.Fail(4), d.e.Tick(15), d.e.Fail(2))
	d.well(d.e.Tick(4))
	d.says(1, "1 [5 4 3 6 2 7] [1 1 1 1 0 0]")
	d.ready("[{2 0 1 0} {1 4 1 0}]")
	d.due("[{1 -1 20} {1 1 25} {1 2 100} {2 -1 1000}]")
	d.well(d.e.Tick(1))
	d.says(1, "5 [5 7 7 6 7 7] [1 1 1 1 0 0]")
	d.ready("[{2 0 1 0}]")
	d.due("[{2 -1 1000}]")
	d.noToken(1, 2, 3, 4)
	d.bad(api.ErrRun, func() error { return d.e.Cancel(1) })
}

// P21: what has ended stays so, whatever passes.
func TestWhatEndedStays(t *testing.T) {
	d := newDesk(t)
	f := plainly(nil)
	f.Nodes[0].Budget = 1
	late := plainly(nil)
	late.Deadline = 1
	d.submit(f)
	d.submit(f)
	d.submit(plainly(nil))
	d.submit(late)
	d.poll("{1 0 1 1}")
	d.poll("{2 0 1 2}")
	d.well(d.e.Complete(1), d.e.Fail(2), d.e.Cancel(3), d.e.Tick(1))
	stays := func() {
		t.Helper()
		d.says(1, "2 [5] [1]")
		d.says(2, "3 [6] [1]")
		d.says(3, "4 [7] [0]")
		d.says(4, "5 [7] [0]")
		d.due("[]")
		d.ready("[]")
		d.pollNone()
		for n := range uint64(5) {
			d.bad(api.ErrRun, func() error { return d.e.Cancel(n) })
			d.noToken(n)
		}
	}
	stays()
	d.well(d.e.Tick(100), d.e.Seed(3))
	stays()
	d.well(d.e.Tick(math.MaxUint64))
	stays()
}
