package runs

import (
	"bytes"
	"fmt"
	"math"
	"math/rand/v2"
	"slices"
	"testing"

	"flowkeeper/api"
	"flowkeeper/numbers"
	"flowkeeper/wheels"
)

// says: all that a keeper says.
func says(k *Keeper) string {
	now, seed := k.Clock()
	s := fmt.Sprintln(now, seed, k.lastRun, k.lastToken, k.ended.List(), k.Timers(), k.Queue())
	for n := range k.Runs() {
		s += fmt.Sprintln(k.Query(n))
	}
	return s
}

// restored: another keeper, of the state of this one.
func restored(t *testing.T, k *Keeper) *Keeper {
	t.Helper()
	state := k.State()
	own := bytes.Clone(state)
	var c Keeper
	c.Restore(own)
	if !bytes.Equal(own, state) || !bytes.Equal(c.State(), state) || !bytes.Equal(k.State(), state) || says(&c) != says(k) {
		t.Fatalf("%x is\n%s\nand should be\n%s", state, says(&c), says(k))
	}
	for i := range own {
		own[i] = 0x55 // the state is its owner's
	}
	return &c
}

// greatest: a flow of which each number is the greatest, without edges.
func greatest() (f api.Flow) {
	f.Deadline = api.MaxSpan
	for range api.MaxNodes {
		f.Nodes = append(f.Nodes, api.Node{Budget: api.MaxBudget, Close: api.MaxSpan, Beat: api.MaxSpan, Base: api.MaxSpan, Cap: api.MaxSpan, Jitter: api.MaxSpan})
	}
	return f
}

// The fullest keeper, and with ids and tokens as great as can be, has room in 3,200 bytes.
func TestStateOfTheFullest(t *testing.T) {
	k := &Keeper{lastRun: math.MaxInt64 - api.MaxRuns, lastToken: math.MaxUint64 - 100, seed: math.MaxUint64}
	k.timers = wheels.New[timer](api.MaxTime - 4*api.MaxSpan)
	for range api.MaxRuns {
		k.Submit(greatest(), kept)
	}
	for i := range uint64(api.MaxRuns * api.MaxNodes) {
		if x, ok, _ := k.Poll(kept); !ok || x.Token != math.MaxUint64-99+i {
			t.Fatalf("Poll = %v, %v", x, ok)
		}
	}
	n := len(k.State())
	if n > 3200 || n < 2900 || len(k.Timers()) != 150 {
		t.Errorf("%d bytes, and %d are due", n, len(k.Timers()))
	}
	c := restored(t, k)
	for token := uint64(math.MaxUint64 - 99); token < math.MaxUint64-70; token++ {
		if a, b := c.Fail(token, kept), k.Fail(token, kept); a != nil || b != nil {
			t.Fatalf("Fail(%d) = %v, %v", token, a, b)
		}
	}
	c = restored(t, k)
	for range 40 {
		k.Tick(api.MaxSpan/8, kept)
		c.Tick(api.MaxSpan/8, kept)
		k.Poll(kept)
		c.Poll(kept)
		if says(c) != says(k) {
			t.Fatalf("it is\n%s\nand should be\n%s", says(c), says(k))
		}
		c = restored(t, c)
	}
}

// anyCall makes a call of any kind.
func anyCall(r *rand.Rand, k *Keeper) {
	token := k.lastToken - uint64(r.IntN(5))
	switch r.IntN(9) {
	case 0:
		f := api.Flow{Deadline: 1 + r.IntN(90)}
		for i := range 1 + r.IntN(api.MaxNodes) {
			n := api.Node{Budget: 1 + r.IntN(3), Close: 1 + r.IntN(9), Beat: r.IntN(9), Base: 1 + r.IntN(4), Cap: 4 + r.IntN(300), Jitter: r.IntN(5)}
			for a := range i {
				if r.IntN(4) == 0 {
					n.After = append(n.After, a)
				}
			}
			f.Nodes = append(f.Nodes, n)
		}
		k.Submit(f, kept)
	case 1, 2:
		k.Poll(kept)
	case 3:
		k.Beat(token, kept)
	case 4:
		k.Complete(token, kept)
	case 5:
		k.Fail(token, kept)
	case 6:
		k.Cancel(k.lastRun-uint64(r.IntN(9)), kept)
	case 7:
		k.Seed(r.Uint64()>>r.IntN(64), kept)
	default:
		k.Tick(r.Uint64N(9), kept)
	}
}

// Keepers of all kinds are restored, and what comes of any calls then is the same.
func TestRestore(t *testing.T) {
	restored(t, &Keeper{})
	for round := range uint64(200) {
		r, s := rand.New(rand.NewPCG(round, 97)), rand.New(rand.NewPCG(round, 97))
		var k Keeper
		c := &Keeper{}
		for range 150 {
			anyCall(r, &k)
			anyCall(s, c)
			c = restored(t, c)
			if says(c) != says(&k) {
				t.Fatalf("it is\n%s\nand should be\n%s", says(c), says(&k))
			}
		}
	}
}

// Nothing of another keeper is left, and nothing hangs on the state or on what it was taken of.
func TestRestoreOverAnother(t *testing.T) {
	var k, c Keeper
	k.Submit(greatest(), kept)
	k.Poll(kept)
	r := rand.New(rand.NewPCG(1, 101))
	for range 100 {
		anyCall(r, &c)
	}
	state := k.State()
	was := says(&k)
	c.Restore(state)
	if says(&c) != was {
		t.Errorf("it is\n%s\nand should be\n%s", says(&c), was)
	}
	for _, n := range c.known[0].nodes {
		n.After = append(n.After, 7)
	}
	for range 100 {
		anyCall(r, &c)
	}
	c.known[0].nodes[1] = node{}
	if says(&k) != was || !bytes.Equal(k.State(), state) {
		t.Errorf("one keeper hangs on another: it is\n%s\nand was\n%s", says(&k), was)
	}
}

// A run that has ended needs little room: nobody asks for its flow any more.
func TestStateOfEnded(t *testing.T) {
	var k Keeper
	for range api.MaxRuns {
		k.Submit(greatest(), kept)
	}
	full := len(k.State())
	for n := range uint64(api.MaxRuns) {
		k.Cancel(n+1, kept)
	}
	if n := len(k.State()); n > full/2 {
		t.Errorf("%d bytes of %d are left when all have ended", n, full)
	}
	restored(t, &k)
}

// busy: a keeper with something of each kind: run 2 has ended.
func busy() *Keeper {
	n := api.Node{Budget: 3, Close: 9, Beat: 5, Base: 4, Cap: 4}
	w := n
	w.After = []int{0, 1}
	var k Keeper
	for range 3 {
		k.Submit(api.Flow{Deadline: 50, Nodes: []api.Node{n, n, w}}, kept)
	}
	k.Poll(kept)
	k.Poll(kept)
	k.Fail(2, kept)
	k.Cancel(2, kept)
	return &k
}

// use makes calls of all kinds, whatever the keeper is: none of them goes wrong.
func use(k *Keeper, seed uint64) {
	r := rand.New(rand.NewPCG(seed, 103))
	for range 60 {
		anyCall(r, k)
		says(k)
		k.Cancel(uint64(r.IntN(5)), kept)
	}
	k.Tick(math.MaxUint64, kept)
	k.State()
	says(k)
}

// What names something that is not there is no state, and turns nothing.
func TestRestoreOfUnsound(t *testing.T) {
	refused := func(what string, spoil func(m *image)) {
		t.Helper()
		var s tape
		m := busy().image()
		spoil(m)
		m.over(&s)
		k := busy()
		k.Tick(1, kept)
		was := says(k)
		k.Restore(s.bytes)
		if says(k) != was {
			t.Errorf("%s: it is\n%s\nand was\n%s", what, says(k), was)
		}
	}
	far := []int{-1, 3, math.MaxInt, math.MinInt}
	for _, i := range far {
		refused("a node waits for none", func(m *image) { m.known[0].nodes[2].After[1] = i })
		refused("none has ended", func(m *image) { m.ended[0] = i })
		refused("none is ready", func(m *image) { m.queue[1].run = i })
		refused("no node is ready", func(m *image) { m.queue[1].node = i })
		refused("none is due", func(m *image) { m.timers[0].run = i })
		refused("no node is due", func(m *image) { m.timers[0].node = i })
		refused("no deadline is due", func(m *image) { m.timers[len(m.timers)-1].run = i })
	}
	for _, i := range []int{0, 1, 2, 3, -2} {
		refused("a deadline of a node", func(m *image) { m.timers[len(m.timers)-1].node = i })
	}
	for _, kind := range []kind{deadline, rest + 1, -1, math.MaxInt} {
		refused("something else is due", func(m *image) { m.timers[0].kind = kind })
	}
	refused("what runs has ended", func(m *image) { m.ended[0] = 0 })
	refused("of what has ended a node is ready", func(m *image) { m.queue[0].run = 1 })
	refused("of what has ended a node is due", func(m *image) { m.timers[0].run = 1 })
	refused("of what has ended the deadline is due", func(m *image) { m.timers[len(m.timers)-1].run = 1 })
	refused("of what has ended a node is at work", func(m *image) { m.known[1].nodes[0].state = api.Working })
	refused("an id comes twice", func(m *image) { m.known[2].id = 2 })
	refused("ids fall", func(m *image) { m.known[0].id = 4 })
	refused("no id", func(m *image) { m.known[0].id = 0 })
	refused("an id is still to come", func(m *image) { m.lastRun = 2 })
	refused("ids begin anew", func(m *image) { m.lastRun = math.MaxInt64 + 1 })
	var k Keeper
	k.Restore(busy().State())
	if says(&k) != says(busy()) {
		t.Errorf("it is\n%s\nand should be\n%s", says(&k), says(busy()))
	}
}

// Cut off, gone on with, or with any byte another one: it is no state, or one with which nothing goes wrong (P1).
func TestRestoreOfRot(t *testing.T) {
	state := busy().State()
	for n := range state {
		var k Keeper
		k.Restore(state[:n])
		if says(&k) != says(&Keeper{}) {
			t.Errorf("of %d bytes of %d there is\n%s", n, len(state), says(&k))
		}
		k.Restore(append(bytes.Clone(state), state[:n+1]...))
		if says(&k) != says(&Keeper{}) {
			t.Errorf("with %d bytes more there is\n%s", n+1, says(&k))
		}
		for _, c := range []byte{0, 1, 2, 3, 4, 5, 6, 7, 0x7f, 0x80, 0x81, 0xff, state[n] + 1, state[n] - 1} {
			rot := bytes.Clone(state)
			rot[n] = c
			var k Keeper
			k.Restore(rot)
			use(&k, uint64(n))
		}
	}
	none := [][]byte{nil, {}, {0}, bytes.Repeat([]byte{0xff}, 50), bytes.Repeat([]byte{0x80}, 50)}
	for _, list := range []int{4, 5, 6, 7} { // lists of which more is told than there is
		b := make([]byte, list)
		for _, count := range []uint64{1, 1 << 31, math.MaxInt64, 1 << 63, math.MaxUint64} {
			none = append(none, numbers.Append(slices.Clone(b), count))
		}
	}
	for _, b := range none {
		k := busy()
		k.Restore(b)
		if says(k) != says(busy()) {
			t.Errorf("%x turned it to\n%s", b, says(k))
		}
	}
}

func FuzzRestore(f *testing.F) {
	f.Add(busy().State(), uint64(1))
	f.Add((&Keeper{}).State(), uint64(2))
	f.Fuzz(func(t *testing.T, state []byte, seed uint64) {
		var k Keeper
		k.Restore(state)
		use(&k, seed)
	})
}
