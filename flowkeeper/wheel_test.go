package flowkeeper_test

import (
	"encoding/binary"
	"fmt"
	"math"
	"math/rand/v2"
	"slices"
	"testing"

	"flowkeeper/api"
	"flowkeeper/flowkeeper"
	"flowkeeper/plain"
)

const end = uint64(api.MaxTime)

// pair is a wheel, and a list that is to say the same.
type pair struct {
	t   *testing.T
	w   *flowkeeper.Wheel
	now uint64
	l   []api.Fired // in the order in which they were set
}

func newPair(t *testing.T, now uint64) *pair {
	p := &pair{t: t, w: flowkeeper.NewWheel(now), now: min(now, end)}
	p.next()
	return p
}

func (p *pair) at(id int) int {
	return slices.IndexFunc(p.l, func(f api.Fired) bool { return f.Id == id })
}

func (p *pair) next() {
	p.t.Helper()
	var want uint64
	for i, f := range p.l {
		if i == 0 || f.At < want {
			want = f.At
		}
	}
	if at, ok := p.w.Next(); at != want || ok != (len(p.l) > 0) {
		p.t.Fatalf("P10: at %d: Next = %d, %v, want %d of %v", p.now, at, ok, want, p.l)
	}
}

func (p *pair) set(id int, at uint64) {
	p.t.Helper()
	var want error
	switch {
	case p.at(id) >= 0:
		want = api.ErrTimer
	case len(p.l) == 200:
		want = api.ErrMany
	default:
		p.l = append(p.l, api.Fired{Id: id, At: later(p.now, at)})
	}
	if err := p.w.Set(id, at); err != want {
		p.t.Fatalf("P9: at %d: Set(%d, %d) = %v, want %v", p.now, id, at, err, want)
	}
	p.next()
}

// later: when a timer is due that is set at now.
func later(now, at uint64) uint64 {
	if at <= now {
		at = now + 1
	}
	if at > end {
		at = end
	}
	return at
}

func (p *pair) cancel(id int) {
	p.t.Helper()
	var want error
	if i := p.at(id); i >= 0 {
		p.l = slices.Delete(p.l, i, i+1)
	} else {
		want = api.ErrTimer
	}
	if err := p.w.Cancel(id); err != want {
		p.t.Fatalf("P9: at %d: Cancel(%d) = %v, want %v", p.now, id, err, want)
	}
	p.next()
}

func (p *pair) advance(ticks uint64) {
	p.t.Helper()
	was := p.now
	if ticks > end-p.now {
		p.now = end
	} else {
		p.now += ticks
	}
	var want, left []api.Fired
	for _, f := range p.l {
		if f.At <= p.now {
			want = append(want, f)
		} else {
			left = append(left, f)
		}
	}
	slices.SortStableFunc(want, func(a, b api.Fired) int {
		if a.At < b.At {
			return -1
		}
		if a.At > b.At {
			return 1
		}
		return 0
	})
	p.l = left
	if got := p.w.Advance(ticks); fmt.Sprintf("%#v", got) != fmt.Sprintf("%#v", want) {
		p.t.Fatalf("P10: at %d: Advance(%d) = %v, want %v", was, ticks, got, want)
	}
	p.next()
}

// came: what comes in so many ticks, as it is written down.
func came(t *testing.T, w *flowkeeper.Wheel, ticks uint64, want string) {
	t.Helper()
	if got := fmt.Sprint(w.Advance(ticks)); got != want {
		t.Errorf("P10: Advance(%d) = %s, want %s", ticks, got, want)
	}
}

// first: what Next is to say; 0: there is no timer.
func first(t *testing.T, w *flowkeeper.Wheel, want uint64) {
	t.Helper()
	if at, ok := w.Next(); at != want || ok != (want > 0) {
		t.Errorf("P10: Next = %d, %v, want %d", at, ok, want)
	}
}

func setAll(t *testing.T, w *flowkeeper.Wheel, at uint64, ids ...int) {
	t.Helper()
	for _, id := range ids {
		if err := w.Set(id, at); err != nil {
			t.Errorf("P9: Set(%d, %d) = %v", id, at, err)
		}
	}
}

// The last of the document's examples.
func TestExampleOfWheel(t *testing.T) {
	w := flowkeeper.NewWheel(0)
	setAll(t, w, 70, 1)
	setAll(t, w, 5, 2)
	setAll(t, w, 70, 3)
	first(t, w, 5)
	came(t, w, 69, "[{2 5}]")
	first(t, w, 70)
	came(t, w, 1, "[{1 70} {3 70}]")
	first(t, w, 0)
}

// edgeTimes: times about which a wheel of any widths might err: the first ones, those about each power of 2, the last ones, and more than the last.
func edgeTimes() []uint64 {
	l := []uint64{0, 1, 2, 3, 1<<63 - 1, 1 << 63, 1<<63 + 1, math.MaxUint64 - 1, math.MaxUint64}
	for k := 2; k <= 62; k++ {
		for d := range uint64(4) {
			l = append(l, 1<<k-2+d)
		}
	}
	return l
}

// P8: a wheel at any time: no timers; and the time is that one, but 2^62 at the most.
func TestNewWheel(t *testing.T) {
	for _, now := range edgeTimes() {
		w := flowkeeper.NewWheel(now)
		first(t, w, 0)
		if l := w.Advance(0); l != nil {
			t.Errorf("P8: a wheel at %d has %v", now, l)
		}
		if err := w.Cancel(0); err != api.ErrTimer {
			t.Errorf("P8: a wheel at %d has a timer 0: %v", now, err)
		}
		setAll(t, w, 0, 0)
		first(t, w, later(min(now, end), 0)) // the next tick shows the time
		came(t, w, 1, fmt.Sprintf("[{0 %d}]", later(min(now, end), 0)))
	}
}

// P9: Set of an id that is there: ErrTimer, and the timer is due when it was.
func TestSetTwice(t *testing.T) {
	for _, id := range []int{0, 1, -1, math.MinInt, math.MaxInt} {
		w := flowkeeper.NewWheel(3)
		setAll(t, w, 500, id, id+1)
		for _, at := range []uint64{0, 3, 4, 500, 501, 1 << 40, math.MaxUint64} {
			if err := w.Set(id, at); err != api.ErrTimer {
				t.Errorf("P9: Set(%d) of one that is there: %v", id, err)
			}
		}
		came(t, w, 496, "[]")
		came(t, w, 1, fmt.Sprintf("[{%d 500} {%d 500}]", id, id+1))
		came(t, w, math.MaxUint64, "[]")
	}
}

// P9: Cancel of an id that is not there: never set, gone already, or come already; of one that is there: it is gone, and all others stay.
func TestCancel(t *testing.T) {
	w := flowkeeper.NewWheel(0)
	not := func(id int) {
		t.Helper()
		if err := w.Cancel(id); err != api.ErrTimer {
			t.Errorf("P9: Cancel(%d) of none: %v", id, err)
		}
	}
	well := func(id int) {
		t.Helper()
		if err := w.Cancel(id); err != nil {
			t.Errorf("P9: Cancel(%d): %v", id, err)
		}
	}
	not(1)
	setAll(t, w, 9, 1, 2, 3)
	setAll(t, w, 900, 4, -4)
	for _, id := range []int{0, -1, 5, math.MinInt, math.MaxInt} {
		not(id)
	}
	well(2)
	not(2)
	well(4)
	not(4)
	first(t, w, 9)
	came(t, w, 9, "[{1 9} {3 9}]")
	not(1)
	not(3)
	first(t, w, 900)
	well(-4)
	first(t, w, 0)
	came(t, w, math.MaxUint64, "[]")
}

// P9, P10: a timer is cancelled wherever it has come to stand, when now has come nearer to it by any jumps.
func TestCancelBehindJumps(t *testing.T) {
	for k := range 62 {
		p := newPair(t, 0)
		at := uint64(1)<<k + 5
		p.set(1, at)
		p.set(2, at)
		p.set(3, at+1)
		for j := 62; j >= 0; j-- {
			if p.now+1<<j >= at {
				continue
			}
			p.advance(1 << j)
			p.set(4, at)
			p.cancel(4)
		}
		p.cancel(1)
		p.cancel(1)
		p.advance(at - p.now)
		p.advance(1)
	}
}

// P9: the 200th timer and the 201st; ErrTimer ahead of ErrMany; there is room again behind a Cancel, and behind one that has come.
func TestManyTimers(t *testing.T) {
	w := flowkeeper.NewWheel(0)
	for i := range 200 {
		setAll(t, w, uint64(1+i*i*i*i), i)
	}
	full := func() {
		t.Helper()
		if err := w.Set(1000, 7); err != api.ErrMany {
			t.Errorf("P9: Set of the 201st: %v", err)
		}
		if err := w.Set(199, 7); err != api.ErrTimer {
			t.Errorf("P9: Set of one of 200: %v", err)
		}
		if err := w.Cancel(1000); err != api.ErrTimer {
			t.Errorf("P9: Cancel of what found no room: %v", err)
		}
	}
	full()
	if err := w.Cancel(5); err != nil {
		t.Errorf("P9: Cancel: %v", err)
	}
	setAll(t, w, 1<<40, 200)
	full()
	came(t, w, 1, "[{0 1}]")
	setAll(t, w, 1<<40, 201)
	full()
	if l := w.Advance(math.MaxUint64); len(l) != 200 || l[0] != (api.Fired{Id: 1, At: 2}) || l[197].Id != 199 || l[198].Id != 200 || l[199].Id != 201 {
		t.Errorf("P10: %d of 200 come: %v", len(l), l)
	}
	setAll(t, w, 0, 1000)
}

// P9: each time as it is, or the next tick, or 2^62, seen from about each time.
func TestTimesOfSet(t *testing.T) {
	for _, now := range edgeTimes() {
		p := newPair(t, now)
		for id, at := range edgeTimes() {
			p.set(id%100, at)
			if id%100 == 99 {
				p.advance(math.MaxUint64)
				p = newPair(t, now)
			}
		}
		for id, at := range []uint64{p.now - 2, p.now - 1, p.now, p.now + 1, p.now + 2, end - 1, end, end + 1, math.MaxUint64} {
			p.set(1000+id, at)
		}
		p.advance(0)
		p.advance(1)
		p.advance(1)
		p.advance(math.MaxUint64)
		p.advance(0)
	}
}

// P9, P10: at 2^62, where time ends: a timer is due at once, and comes when 0 ticks pass, or any.
func TestEndOfTime(t *testing.T) {
	for _, now := range []uint64{end, end + 1, math.MaxUint64} {
		for _, ticks := range []uint64{0, 1, end, math.MaxUint64} {
			w := flowkeeper.NewWheel(now)
			for id, at := range []uint64{math.MaxUint64, 0, end, end - 1, end + 1} {
				setAll(t, w, at, id)
			}
			first(t, w, end)
			if err := w.Cancel(2); err != nil {
				t.Errorf("P9: Cancel: %v", err)
			}
			came(t, w, ticks, fmt.Sprintf("[{0 %d} {1 %[1]d} {3 %[1]d} {4 %[1]d}]", end))
			first(t, w, 0)
			setAll(t, w, 5, 2)
			came(t, w, ticks, fmt.Sprintf("[{2 %d}]", end))
		}
	}
}

// P10: the time comes to 2^62 and no further, from wherever, by however many ticks.
func TestTicksPastEnd(t *testing.T) {
	for _, now := range []uint64{0, 1, 1 << 61, end - 2, end - 1, end} {
		for _, ticks := range []uint64{end - now, end - now + 1, end, end + 1, 1 << 63, math.MaxUint64 - now, math.MaxUint64 - now + 1, math.MaxUint64} {
			if ticks < end-now {
				continue // 2^64, where it is 0
			}
			p := newPair(t, now)
			p.set(1, end)
			p.set(2, now+1)
			p.advance(ticks)
			p.set(3, 0)
			p.advance(0)
		}
	}
	w := flowkeeper.NewWheel(0)
	setAll(t, w, math.MaxUint64, 1)
	came(t, w, end-1, "[]")
	came(t, w, 1, fmt.Sprintf("[{1 %d}]", end))
}

// P10: one jump of any size, over timers at all levels.
func TestJumps(t *testing.T) {
	for _, now := range []uint64{0, 1, 1<<6 - 1, 1<<12 - 1, 1<<36 - 1, 1<<36 + 1<<6, 1 << 61, 1<<61 - 1, 0x2aaaaaaaaaaaaaaa, 0x1555555555555555} {
		for k := range 63 {
			for d := range uint64(3) {
				ticks := uint64(1)<<k - 1 + d
				p := newPair(t, now)
				for j := 62; j >= 0; j-- {
					p.set(3*j, now+1<<j-1)
					p.set(3*j+1, now+1<<j)
					p.set(3*j+2, now+1<<j+1)
				}
				p.advance(ticks)
				p.advance(1)
				p.advance(ticks)
				p.advance(math.MaxUint64)
			}
		}
	}
}

// P10: a time that is just reached comes; the tick ahead of it does not bring it. By a single jump, by the least steps, and by falling ones.
func TestJustReached(t *testing.T) {
	for _, at := range edgeTimes()[4:] {
		for _, now := range []uint64{0, at / 2, at - min(at, 130), at - 1} {
			if at < 2 || at > end {
				continue
			}
			p := newPair(t, now)
			p.set(1, at)
			p.advance(at - 1 - now)
			p.advance(1)
			p = newPair(t, now)
			p.set(1, at)
			for p.now < at-1 {
				p.advance((at - p.now) / 2)
			}
			p.advance(1)
		}
	}
	p := newPair(t, 0)
	for id := range 150 {
		p.set(id, uint64(1+id*61))
	}
	for p.now < 9300 {
		p.advance(1)
	}
}

// P10: of those due at the same time those that were set earlier come first, however near it was when they were set, and whatever their ids.
func TestSameTime(t *testing.T) {
	for _, at := range []uint64{1 << 40, 1<<40 + 1, 1<<40 - 1, end, end - 1, 1<<36 + 1<<12 + 7} {
		w := flowkeeper.NewWheel(0)
		var now uint64
		to := func(then uint64) {
			came(t, w, then-now, "[]")
			now = then
		}
		setAll(t, w, at, 9)
		setAll(t, w, at-1, 100)
		setAll(t, w, at, 3)
		if err := w.Cancel(100); err != nil {
			t.Error(err)
		}
		to(at - 1<<35 - 5)
		setAll(t, w, at, 7)
		to(at - 4097)
		setAll(t, w, at, 1)
		to(at - 65)
		setAll(t, w, at, 8)
		to(at - 64)
		setAll(t, w, at, 2)
		to(at - 63)
		setAll(t, w, at, 6)
		to(at - 1)
		setAll(t, w, at, -4)
		setAll(t, w, 0, 5)
		setAll(t, w, at-1, 4)
		came(t, w, 9, fmt.Sprintf("[{9 %d} {3 %[1]d} {7 %[1]d} {1 %[1]d} {8 %[1]d} {2 %[1]d} {6 %[1]d} {-4 %[1]d} {5 %[1]d} {4 %[1]d}]", at))
	}
}

// P10: timers that stand together far away come by their times; those of one time as they were set.
func TestTogetherFarAway(t *testing.T) {
	for _, far := range []uint64{1 << 12, 1 << 30, 1 << 54, 3 << 60} {
		p := newPair(t, 0)
		for id := range 200 {
			p.set(id, far+uint64(id*77%13))
		}
		p.advance(far + 6)
		p.advance(3)
		p.advance(3)
		p.advance(1)
	}
}

// P9, P10: an id may be set again behind a Cancel, and when it has come: it stands behind those that were set meanwhile.
func TestSetAgain(t *testing.T) {
	w := flowkeeper.NewWheel(0)
	setAll(t, w, 100, 1, 2, 3)
	if err := w.Cancel(1); err != nil {
		t.Error(err)
	}
	setAll(t, w, 100, 1)
	if err := w.Cancel(2); err != nil {
		t.Error(err)
	}
	setAll(t, w, 50, 2)
	came(t, w, 50, "[{2 50}]")
	setAll(t, w, 100, 2)
	came(t, w, 50, "[{3 100} {1 100} {2 100}]")
	setAll(t, w, 100, 3, 2, 1)
	came(t, w, 0, "[]")
	came(t, w, 1, "[{3 101} {2 101} {1 101}]")
}

// P2: a list that comes out is the caller's, and wheels know nothing of one another.
func TestWheelsApart(t *testing.T) {
	a, b := flowkeeper.NewWheel(0), flowkeeper.NewWheel(0)
	setAll(t, a, 5, 1, 2)
	setAll(t, b, 5, 3)
	setAll(t, b, 6, 1)
	l := a.Advance(5)
	setAll(t, a, 6, 1, 2)
	for i := range l[:cap(l)] {
		l[:cap(l)][i] = api.Fired{Id: 77, At: 77}
	}
	m := a.Advance(1)
	if want := []api.Fired{{Id: 1, At: 6}, {Id: 2, At: 6}}; !slices.Equal(m, want) {
		t.Errorf("P2: one list hangs on another: %v, want %v", m, want)
	}
	if l[0].Id != 77 || l[1].Id != 77 {
		t.Errorf("P2: a list was written into: %v", l)
	}
	came(t, b, 5, "[{3 5}]")
	if err := b.Cancel(1); err != nil {
		t.Errorf("P2: a timer of one wheel is gone by another: %v", err)
	}
}

// P2: where nothing comes, the list is nil.
func TestNothingComes(t *testing.T) {
	w := flowkeeper.NewWheel(7)
	for _, ticks := range []uint64{0, 1, 64} {
		if l := w.Advance(ticks); l != nil {
			t.Errorf("P2: no timers: %#v", l)
		}
	}
	setAll(t, w, 5000, 1)
	for _, ticks := range []uint64{0, 1, 64, 4096} {
		if l := w.Advance(ticks); l != nil {
			t.Errorf("P2: none that is due: %#v", l)
		}
	}
}

// P1: a wheel that NewWheel did not make: none of the calls panics.
func TestWheelsOfNobody(t *testing.T) {
	var w flowkeeper.Wheel
	first(t, &w, 0)
	came(t, &w, 3, "[]")
	setAll(t, &w, 70, 1)
	first(t, &w, 70)
	came(t, &w, 67, "[{1 70}]")
	var none *flowkeeper.Wheel
	if a, b := none.Set(1, 1), none.Cancel(1); a != api.ErrMany || b != api.ErrTimer {
		t.Errorf("P1: no wheel at all: %v, %v", a, b)
	}
	first(t, none, 0)
	came(t, none, 3, "[]")
}

// The numbers of the errors, as package plain tells them.
func TestNumbersOfTimers(t *testing.T) {
	w := flowkeeper.NewWheel(0)
	if a, b, c := plain.Cancel(w, 1), plain.Set(w, 1, 9), plain.Set(w, 1, 9); a != 8 || b != 0 || c != 8 {
		t.Errorf("P9: %d, %d, %d, want 8, 0, 8", a, b, c)
	}
	for i := range 199 {
		plain.Set(w, i+2, 9)
	}
	if a, b, c := plain.Set(w, 0, 9), plain.Cancel(w, 1), plain.Set(w, 0, 9); a != 5 || b != 0 || c != 0 {
		t.Errorf("P9: %d, %d, %d, want 5, 0, 0", a, b, c)
	}
}

// any64: numbers of any length in bits, short ones as often as long ones.
func any64(r *rand.Rand) uint64 { return r.Uint64() >> r.IntN(64) }

// step does one thing to a pair: of many kinds, most of them near now.
func step(p *pair, op, id int, n uint64) {
	switch op % 8 {
	case 0, 1, 2:
		p.set(id, p.now+n)
	case 3:
		p.set(id, n)
	case 4:
		p.cancel(id)
	case 5:
		if len(p.l) > 0 { // as late as another
			p.set(id, p.l[n%uint64(len(p.l))].At)
		}
	case 6:
		if len(p.l) > 0 { // up to one of them, or just not
			p.advance(p.l[n%uint64(len(p.l))].At - p.now - n>>63&1)
		}
	default:
		p.advance(n)
	}
}

// P8, P9, P10: wheels of all kinds, against a list.
func TestWheelsOfAllKinds(t *testing.T) {
	r := rand.New(rand.NewPCG(19, 21))
	for round := range 1500 {
		p := newPair(t, any64(r))
		ids := []int{3, 20, 300}[round%3]
		longest := some(r, 2, 64)
		for range 300 {
			n := any64(r) >> (64 - longest)
			op := r.IntN(8)
			if ids == 300 && op > 4 && r.IntN(4) > 0 {
				op = 0 // or it would never be full
			}
			if op == 6 && r.IntN(2) == 0 {
				n |= 1 << 63
			}
			step(p, op, r.IntN(ids), n)
		}
		p.advance(math.MaxUint64)
	}
}

func FuzzWheel(f *testing.F) {
	f.Add([]byte{0, 0, 0, 0, 0, 0, 0, 0, 0, 1, 70, 0, 0, 0, 0, 0, 0, 0, 7, 0, 69, 0, 0, 0, 0, 0, 0, 0})
	f.Fuzz(func(t *testing.T, b []byte) {
		if len(b) < 8 {
			return
		}
		p := newPair(t, binary.LittleEndian.Uint64(b))
		for b = b[8:]; len(b) >= 10; b = b[10:] {
			step(p, int(b[0]), int(b[1]), binary.LittleEndian.Uint64(b[2:]))
		}
		p.advance(math.MaxUint64)
	})
}
