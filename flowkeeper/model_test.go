package flowkeeper_test

import (
	"fmt"
	"math"
	"math/rand/v2"
	"slices"
	"strings"
	"testing"

	"flowkeeper/api"
	"flowkeeper/flowkeeper"
)

// lists is an engine told another way: all that is due and ready stands in lists that are searched.
type lists struct {
	now, seed, ids, tokens uint64
	runs                   []*listed
	endings                int
	queue                  []mark
	due                    []entry // as they were set
}

// listed is a run.
type listed struct {
	id, token    uint64
	flow         api.Flow
	state, ended int // ended: the how manyth that ended
	states       []int
	tries        []int
	tokens       []uint64
	by           [12][12]bool // does one wait for the other, by whatever others?
}

type mark struct {
	run  *listed
	node int
}

type entry struct {
	mark
	what string
	at   uint64
}

func (m *lists) set(run *listed, node int, what string, ticks int) {
	m.due = append(m.due, entry{mark{run, node}, what, min(m.now+uint64(ticks), end)})
}

// unset: nothing of that node is due; of the node -2: nothing of the run.
func (m *lists) unset(run *listed, node int, what string) {
	m.due = slices.DeleteFunc(m.due, func(x entry) bool {
		return x.run == run && (node == -2 || x.node == node) && strings.Contains(what, x.what)
	})
}

func (m *lists) submit(f api.Flow) (uint64, error) {
	if len(m.runs) == 6 {
		first := -1
		for i, r := range m.runs {
			if r.state != api.Running && (first < 0 || r.ended < m.runs[first].ended) {
				first = i
			}
		}
		if first < 0 {
			return 0, api.ErrMany
		}
		m.runs = slices.Delete(m.runs, first, first+1)
	}
	m.ids++
	n := len(f.Nodes)
	r := &listed{id: m.ids, flow: f, state: api.Running, states: slices.Repeat([]int{api.Waiting}, n), tries: make([]int, n), tokens: make([]uint64, n)}
	for i, x := range f.Nodes {
		for _, a := range x.After {
			r.by[i][a] = true
		}
	}
	for k := range n {
		for i := range n {
			for j := range n {
				r.by[i][j] = r.by[i][j] || r.by[i][k] && r.by[k][j]
			}
		}
	}
	m.runs = append(m.runs, r)
	m.set(r, -1, "deadline", f.Deadline)
	m.wake(r)
	return r.id, nil
}

func (m *lists) wake(r *listed) {
	for i, n := range r.flow.Nodes {
		left := 0
		for _, a := range n.After {
			if r.states[a] != api.Done {
				left++
			}
		}
		if left == 0 && r.states[i] == api.Waiting {
			m.stand(r, i)
		}
	}
}

func (m *lists) stand(r *listed, i int) {
	r.states[i] = api.Ready
	m.queue = append(m.queue, mark{r, i})
}

func (m *lists) poll() (api.Task, bool) {
	if len(m.queue) == 0 {
		return api.Task{}, false
	}
	r, i := m.queue[0].run, m.queue[0].node
	m.queue = m.queue[1:]
	m.tokens++
	r.states[i], r.tokens[i] = api.Working, m.tokens
	r.tries[i]++
	m.set(r, i, "end", r.flow.Nodes[i].Close)
	if n := r.flow.Nodes[i].Beat; n > 0 {
		m.set(r, i, "sign", n)
	}
	return api.Task{Run: r.id, Node: i, Try: r.tries[i], Token: m.tokens}, true
}

// task does something to the task at work by that token.
func (m *lists) task(token uint64, do func(r *listed, i int)) error {
	for _, r := range m.runs {
		for i, s := range r.states {
			if s == api.Working && r.tokens[i] == token {
				do(r, i)
				return nil
			}
		}
	}
	return api.ErrToken
}

func (m *lists) beat(r *listed, i int) {
	if n := r.flow.Nodes[i].Beat; n > 0 {
		m.unset(r, i, "sign")
		m.set(r, i, "sign", n)
	}
}

func (m *lists) complete(r *listed, i int) {
	r.states[i] = api.Done
	m.unset(r, i, "end sign")
	m.wake(r)
	m.close(r)
}

func (m *lists) fail(r *listed, i int) {
	m.unset(r, i, "end sign")
	if r.tries[i] < r.flow.Nodes[i].Budget {
		r.states[i] = api.Resting
		m.set(r, i, "rest", restOf(r.flow.Nodes[i], r.tries[i], m.seed))
		return
	}
	r.states[i] = api.Dead
	for k := range r.states {
		if r.by[k][i] {
			r.states[k] = api.Skipped
		}
	}
	m.close(r)
}

func (m *lists) close(r *listed) {
	count := map[int]int{}
	for _, s := range r.states {
		count[s]++
	}
	switch all := len(r.states); {
	case count[api.Done] == all:
		m.end(r, api.Succeeded)
	case count[api.Done]+count[api.Dead]+count[api.Skipped] == all:
		m.end(r, api.Failed)
	}
}

func (m *lists) end(r *listed, state int) {
	m.endings++
	r.state, r.ended = state, m.endings
	for i, s := range r.states {
		if s != api.Done && s != api.Dead {
			r.states[i] = api.Skipped
		}
	}
	m.queue = slices.DeleteFunc(m.queue, func(q mark) bool { return q.run == r })
	m.unset(r, -2, "deadline end sign rest")
}

func (m *lists) cancel(run uint64) error {
	for _, r := range m.runs {
		if r.id == run && r.state == api.Running {
			m.end(r, api.Cancelled)
			return nil
		}
	}
	return api.ErrRun
}

func (m *lists) tick(ticks uint64) {
	to := m.now + min(ticks, end-m.now)
	for {
		next := -1
		for i, x := range m.due {
			if x.at <= to && (next < 0 || x.at < m.due[next].at) {
				next = i
			}
		}
		if next < 0 {
			m.now = to
			return
		}
		x := m.due[next]
		m.due = slices.Delete(m.due, next, next+1)
		m.now = x.at
		switch x.what {
		case "deadline":
			m.end(x.run, api.Late)
		case "rest":
			m.stand(x.run, x.node)
		default:
			m.fail(x.run, x.node)
		}
	}
}

// all is the same text as a desk's.
func (m *lists) all() string {
	var l []api.Timer
	for _, x := range m.due {
		l = append(l, api.Timer{Run: x.run.id, Node: x.node, At: x.at})
	}
	slices.SortStableFunc(l, func(a, b api.Timer) int { return int(a.At - b.At) })
	var q []api.Task
	for _, x := range m.queue {
		q = append(q, api.Task{Run: x.run.id, Node: x.node, Try: x.run.tries[x.node] + 1})
	}
	s := fmt.Sprintln("clock", m.now, m.seed, "timers", l, "queue", q)
	for _, r := range m.runs {
		s += fmt.Sprintln(api.Info{Run: r.id, State: r.state, Nodes: r.states, Tries: r.tries}, nil)
	}
	return s
}

// both is an engine, and lists that are to say the same.
type both struct {
	desk
	m    *lists
	told []string
}

func newBoth(t *testing.T) *both { return &both{desk: newDesk(t), m: &lists{}} }

// same: the call was answered as the lists do, and all that can be asked is the same.
func (b *both) same(call string, got, want any) {
	b.t.Helper()
	b.told = append(b.told, call)
	if got, want := fmt.Sprint(got), fmt.Sprint(want); got != want {
		b.t.Fatalf("%s: %s, want %s, behind\n%s", call, got, want, strings.Join(b.told, "\n"))
	}
	if got, want := b.all(), b.m.all(); got != want {
		b.t.Fatalf("%s: it is\n%s\nand should be\n%s\nbehind\n%s", call, got, want, strings.Join(b.told, "\n"))
	}
}

// submitAny: a flow; or bytes that are none.
func (b *both) submitAny(f api.Flow) {
	b.t.Helper()
	x := written(f)
	n, err := b.e.Submit(x)
	want, wantErr := uint64(0), error(nil)
	if _, wantErr = flowkeeper.Decode(x); wantErr == nil {
		want, wantErr = b.m.submit(f)
	}
	b.same(fmt.Sprintf("submit %+v", f), []any{n, err}, []any{want, wantErr})
}

func (b *both) pollAny() {
	b.t.Helper()
	x, ok, err := b.e.Poll()
	want, wantOk := b.m.poll()
	b.same("poll", []any{x, ok, err}, []any{want, wantOk, nil})
}

func (b *both) tickAny(n uint64) {
	b.t.Helper()
	err := b.e.Tick(n)
	b.m.tick(n)
	b.same(fmt.Sprint("tick ", n), err, nil)
}

// turn does one thing to both: what, and with which number.
func (b *both) turn(what int, n uint64) {
	b.t.Helper()
	switch what {
	case api.Beat:
		b.same(fmt.Sprint("beat ", n), b.e.Beat(n), b.m.task(n, b.m.beat))
	case api.Complete:
		b.same(fmt.Sprint("complete ", n), b.e.Complete(n), b.m.task(n, b.m.complete))
	case api.Fail:
		b.same(fmt.Sprint("fail ", n), b.e.Fail(n), b.m.task(n, b.m.fail))
	case api.Cancel:
		b.same(fmt.Sprint("cancel ", n), b.e.Cancel(n), b.m.cancel(n))
	case api.Seed:
		b.m.seed = n
		b.same(fmt.Sprint("seed ", n), b.e.Seed(n), nil)
	default:
		b.pollAny()
	}
}

// tightFlow: a flow of short spans, so that much of it is due at the same time.
func tightFlow(r *rand.Rand, most int) api.Flow {
	f := anyFlow(r)
	f.Deadline = some(r, 1, 12*most)
	for i := range f.Nodes {
		n := &f.Nodes[i]
		base := some(r, 1, most)
		n.Close, n.Beat, n.Base, n.Cap, n.Jitter = some(r, 1, 2*most), some(r, 0, most), base, base+r.IntN(2*most), r.IntN(most)
	}
	return f
}

// token: most often one that is at work.
func (b *both) token(r *rand.Rand) uint64 {
	var l []uint64
	for _, x := range b.m.runs {
		for i, s := range x.states {
			if s == api.Working {
				l = append(l, x.tokens[i])
			}
		}
	}
	if len(l) == 0 || r.IntN(9) == 0 {
		return uint64(r.Int64N(int64(b.m.tokens) + 3))
	}
	return l[r.IntN(len(l))]
}

// ticks: a few; up to the next that is due, or just not; or far away.
func (b *both) ticks(r *rand.Rand, most int) uint64 {
	if l := b.e.Timers(); len(l) > 0 && r.IntN(2) == 0 {
		x := l[r.IntN(min(len(l), 4))]
		return x.At - b.m.now - uint64(r.IntN(2))&min(1, x.At-b.m.now)
	}
	if r.IntN(200) == 0 {
		return any64(r)
	}
	return uint64(r.IntN(3 * most))
}

// anyCall makes a call of any kind, most often one that turns something.
func (b *both) anyCall(r *rand.Rand, most int) {
	b.t.Helper()
	switch k := r.IntN(40); {
	case k < 4:
		f := tightFlow(r, most)
		if r.IntN(9) == 0 {
			f = anyFlow(r)
		}
		if r.IntN(20) == 0 {
			f.Nodes[0].Budget = 6
		}
		b.submitAny(f)
	case k < 16:
		b.pollAny()
	case k < 20:
		b.turn(api.Beat, b.token(r))
	case k < 28:
		b.turn(api.Complete, b.token(r))
	case k < 32:
		b.turn(api.Fail, b.token(r))
	case k < 33:
		b.turn(api.Cancel, uint64(r.Int64N(int64(b.m.ids)+2)))
	case k < 34:
		b.turn(api.Seed, any64(r))
	default:
		b.tickAny(b.ticks(r, most))
	}
}

// P11 to P20, P22: engines of all kinds, against lists.
func TestEnginesOfAllKinds(t *testing.T) {
	t.Parallel()
	ends := map[int]int{}
	full := 0
	for round := range uint64(400) {
		r := rand.New(rand.NewPCG(round, 37))
		b := newBoth(t)
		most := []int{1, 2, 3, 5, 20, 1 << 10}[round%6]
		if round%10 == 9 {
			b.tickAny(end - uint64(r.IntN(10*most)))
		}
		for range 250 {
			b.anyCall(r, most)
			if len(b.m.runs) == 6 {
				full++
			}
			for _, x := range b.m.runs {
				ends[x.state]++
			}
		}
	}
	for _, s := range []int{api.Running, api.Succeeded, api.Failed, api.Cancelled, api.Late} {
		if ends[s] < 1000 {
			t.Errorf("runs of state %d were seen %d times", s, ends[s])
		}
	}
	if full < 500 {
		t.Errorf("six runs were known %d times", full)
	}
}

// P1, P11 to P22: calls as bytes tell them.
func FuzzEngine(f *testing.F) {
	f.Add([]byte{0, 1, 2, 0, 2, 0, 5, 1, 7, 3, 2, 0, 4, 2, 7, 200})
	f.Add([]byte{0, 9, 0, 8, 0, 7, 2, 0, 2, 0, 7, 1, 3, 1, 7, 6, 6, 1, 9, 255})
	f.Fuzz(func(t *testing.T, l []byte) {
		b := newBoth(t)
		for ; len(l) >= 2; l = l[2:] {
			n := uint64(l[1])
			switch l[0] % 10 {
			case 0, 1:
				r := rand.New(rand.NewPCG(n, uint64(l[0])))
				b.submitAny(tightFlow(r, 1+int(n%16)))
			case 7:
				b.tickAny(n % 32)
			case 9:
				b.tickAny(1 << (n % 64))
			case 3, 4, 5, 6, 8:
				b.turn(int(l[0]%10), n)
			default:
				b.pollAny()
			}
		}
	})
}

// watch goes over what an engine hands out, and holds it against what P21 says.
type watch struct {
	desk
	flows map[uint64]api.Flow
	rests map[[2]uint64]uint64 // when a node that failed may be handed out again
	over  map[uint64]string
}

func (w *watch) query(run uint64) api.Info {
	x, err := w.e.Query(run)
	if err != nil {
		w.t.Fatalf("P22: Query(%d): %v", run, err)
	}
	return x
}

// handed: a task comes when all for which it waits are done, at most Budget times, never ahead of its rest.
func (w *watch) handed(x api.Task) {
	w.t.Helper()
	n := w.flows[x.Run].Nodes[x.Node]
	info := w.query(x.Run)
	for _, a := range n.After {
		if info.Nodes[a] != api.Done {
			w.t.Fatalf("P21: %v is handed out, and node %d is %d", x, a, info.Nodes[a])
		}
	}
	now, _ := w.e.Clock()
	if x.Try > n.Budget || now < w.rests[[2]uint64{x.Run, uint64(x.Node)}] {
		w.t.Fatalf("P21: %v is handed out at %d; of %+v; it was to rest up to %d", x, now, n, w.rests[[2]uint64{x.Run, uint64(x.Node)}])
	}
}

// runsAre: a run has succeeded just if all its nodes are done; what has ended stays so.
func (w *watch) runsAre() {
	w.t.Helper()
	for _, n := range w.runs() {
		x := w.query(n)
		if done := !slices.ContainsFunc(x.Nodes, func(s int) bool { return s != api.Done }); done != (x.State == api.Succeeded) {
			w.t.Fatalf("P21: %v", x)
		}
		s := fmt.Sprint(x)
		if was, ok := w.over[n]; ok && was != s {
			w.t.Fatalf("P21: what had ended as %s is %s", was, s)
		}
		if x.State != api.Running {
			w.over[n] = s
		}
	}
}

// P21, P7: when whatever is ready is polled within gap ticks, a run has ended behind Bound ticks, whatever becomes of its tasks; in any case behind its deadline.
func TestRunsEnd(t *testing.T) {
	byBound := 0
	for round := range uint64(600) {
		r := rand.New(rand.NewPCG(round, 41))
		w := &watch{newDesk(t), map[uint64]api.Flow{}, map[[2]uint64]uint64{}, map[uint64]string{}}
		w.well(w.e.Seed(any64(r)))
		most := []int{1, 3, 9, 300}[round%4]
		gap := []int{0, 0, 1, 5, 40}[round%5]
		lazy := round%7 == 6 // nothing need be polled: then the deadline alone holds
		until := map[uint64]uint64{}
		for range some(r, 1, 6) {
			f := tightFlow(r, most)
			f.Deadline = some(r, 1, 100*most)
			n := w.submit(f)
			w.flows[n] = f
			ticks := flowkeeper.Bound(f, gap)
			if lazy {
				ticks = f.Deadline
			} else if ticks < f.Deadline {
				byBound++
			}
			until[n] = uint64(ticks)
		}
		w.goOn(r, gap, lazy, until)
	}
	if byBound < 200 {
		t.Errorf("only %d runs were to end ahead of their deadlines", byBound)
	}
}

// goOn lets time pass until all runs have ended; each until then at the latest.
func (w *watch) goOn(r *rand.Rand, gap int, lazy bool, until map[uint64]uint64) {
	w.t.Helper()
	since := map[string]uint64{} // what is ready: since when
	work := map[uint64]api.Task{}
	style := r.IntN(4)
	for len(w.e.Timers()) > 0 {
		now, seed := w.e.Clock()
		wait := w.e.Timers()[0].At - now
		for _, q := range w.e.Queue() {
			key := fmt.Sprint(q)
			if _, ok := since[key]; !ok {
				since[key] = now
			}
		}
		for !lazy || r.IntN(9) == 0 {
			l := w.e.Queue()
			if len(l) == 0 || r.IntN(3) > 0 && !slices.ContainsFunc(l, func(q api.Task) bool { return since[fmt.Sprint(q)]+uint64(gap) <= now }) {
				break
			}
			x, _, _ := w.e.Poll()
			w.handed(x)
			work[x.Token] = x
		}
		for _, q := range w.e.Queue() {
			if !lazy {
				wait = min(wait, since[fmt.Sprint(q)]+uint64(gap)-now)
			}
		}
		wait = min(wait, w.e.Timers()[0].At-now)
		w.say(r, style, work, seed)
		w.runsAre()
		if w.fresh(since) {
			continue // what a task has made ready at this time is to be polled too
		}
		if len(w.e.Timers()) == 0 {
			break
		}
		w.well(w.e.Tick(min(wait, w.e.Timers()[0].At-now)))
		w.runsAre()
		now, _ = w.e.Clock()
		for n, at := range until {
			if x := w.query(n); now >= at && x.State == api.Running {
				w.t.Fatalf("P21: run %d of %+v was to end at %d: %v at %d; gap %d", n, w.flows[n], at, x, now, gap)
			}
		}
	}
}

// fresh: there is something in the queue that was not there yet.
func (w *watch) fresh(since map[string]uint64) bool {
	return slices.ContainsFunc(w.e.Queue(), func(q api.Task) bool { _, ok := since[fmt.Sprint(q)]; return !ok })
}

// say: what became of some tasks.
func (w *watch) say(r *rand.Rand, style int, work map[uint64]api.Task, seed uint64) {
	w.t.Helper()
	now, _ := w.e.Clock()
	for token := range uint64(500) {
		x, ok := work[token]
		if !ok || r.IntN(3) > 0 {
			continue
		}
		switch k := r.IntN(4); {
		case k == 0:
			_ = w.e.Beat(token) // it may be over
		case k < style:
			if w.e.Fail(token) == nil {
				n := w.flows[x.Run].Nodes[x.Node]
				w.rests[[2]uint64{x.Run, uint64(x.Node)}] = now + uint64(restOf(n, x.Try, seed))
			}
			delete(work, token)
		case k == style && r.IntN(2) == 0:
			_ = w.e.Complete(token)
			delete(work, token)
		}
	}
}

// P20: whatever is at work at 2^62, all ends.
func TestAllEndsAtTheLastTime(t *testing.T) {
	for round := range uint64(60) {
		r := rand.New(rand.NewPCG(round, 43))
		b := newBoth(t)
		b.tickAny(end - uint64(r.IntN(30)))
		for range 6 {
			b.submitAny(tightFlow(r, 9))
		}
		for range 30 {
			b.turn([]int{api.Poll, api.Poll, api.Beat, api.Fail, api.Complete}[r.IntN(5)], b.token(r))
		}
		b.tickAny(math.MaxUint64)
		b.tickAny(0)
		if l := b.e.Timers(); l != nil {
			t.Errorf("P20: %v are due behind the last time", l)
		}
		for n := range b.e.Runs() {
			if x, _ := b.e.Query(n); x.State == api.Running {
				t.Errorf("P20: %v", x)
			}
		}
	}
}
