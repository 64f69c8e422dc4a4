package flowkeeper_test

import (
	"math"
	"math/big"
	"math/rand/v2"
	"testing"

	"flowkeeper/api"
	"flowkeeper/flowkeeper"
	"flowkeeper/plain"
)

// P6: ordinary rests; the second of the document's examples stands first.
func TestRest(t *testing.T) {
	example := api.Node{Base: 3, Cap: 20, Jitter: 3}
	still := api.Node{Base: 3, Cap: 20}
	for i, c := range []struct {
		n    api.Node
		k    int
		seed uint64
		want int
	}{
		{example, 1, 6, 5}, {example, 2, 6, 8}, {example, 3, 6, 14}, {example, 4, 6, 22},
		{still, 1, 6, 3}, {still, 2, 6, 6}, {still, 3, 6, 12}, {still, 4, 6, 20}, {still, 5, 6, 20}, {still, math.MaxInt, 6, 20},
		{still, 0, 6, 3}, {still, -1, 6, 3}, {still, math.MinInt, 6, 3},
		{example, 0, 3, 6}, {example, math.MinInt, 3, 6},
		{example, 1, 0, 3}, {example, 1, 3, 6}, {example, 1, 4, 3}, {example, 1, 7, 6}, {example, 1, 8, 3},
		{example, 1, math.MaxUint64, 6}, {example, 1, 1 << 63, 3},
		{api.Node{Base: 1, Cap: span}, 20, 0, 1 << 19}, {api.Node{Base: 1, Cap: span}, 21, 0, span}, {api.Node{Base: 1, Cap: span}, 22, 0, span},
		{api.Node{Base: 1, Cap: span}, 64, 0, span}, {api.Node{Base: 1, Cap: span}, 65, 0, span}, {api.Node{Base: 1, Cap: span}, 66, 0, span},
		{api.Node{Base: 8, Cap: 15}, 2, 0, 15}, {api.Node{Base: 8, Cap: 16}, 2, 0, 16}, {api.Node{Base: 8, Cap: 17}, 2, 0, 16},
		{api.Node{Base: span, Cap: span, Jitter: span}, 1, span, 2 * span}, {api.Node{Base: span, Cap: span, Jitter: span}, 9, span + 1, span},
		{api.Node{Base: 3, Cap: 3, Jitter: 1}, 5, 7, 4},
	} {
		if w := flowkeeper.Rest(c.n, c.k, c.seed); w != c.want {
			t.Errorf("P6: row %d: Rest(%+v, %d, %d) = %d, want %d", i, c.n, c.k, c.seed, w, c.want)
		}
	}
}

// P6: a rest hangs on Base, Cap and Jitter alone.
func TestRestOfOtherNumbers(t *testing.T) {
	n := api.Node{Budget: -1, Close: 99, Beat: 98, Base: 3, Cap: 20, Jitter: 3, After: []int{77}}
	if w := flowkeeper.Rest(n, 3, 6); w != 14 {
		t.Errorf("P6: %d, want 14", w)
	}
}

func clamped(n *big.Int) *big.Int {
	if least := big.NewInt(math.MinInt); n.Cmp(least) < 0 {
		return least
	}
	if most := big.NewInt(math.MaxInt); n.Cmp(most) > 0 {
		return most
	}
	return n
}

// restOf: a rest in numbers of any size, each then the nearest int.
func restOf(n api.Node, k int, seed uint64) int {
	rest := new(big.Int).Lsh(big.NewInt(int64(n.Base)), uint(min(max(k, 1), 200)-1))
	if most := big.NewInt(int64(n.Cap)); rest.Cmp(most) > 0 {
		rest = most
	}
	rest = clamped(rest)
	by := new(big.Int).Add(big.NewInt(int64(n.Jitter)), big.NewInt(1))
	if by.Sign() != 0 {
		rest = new(big.Int).Add(rest, new(big.Int).Mod(new(big.Int).SetUint64(seed), by))
	}
	return int(clamped(rest).Int64())
}

// P1, P6: any numbers whatever.
func TestRestOfAnyNumbers(t *testing.T) {
	odd := []int{math.MinInt, math.MinInt + 1, -1 << 62, -span, -5, -2, -1, 0, 1, 2, 3, 5, 63, 64, 65, span, 1 << 32, 1<<62 - 1, 1 << 62, 1<<62 + 1, math.MaxInt - 1, math.MaxInt}
	r := rand.New(rand.NewPCG(11, 13))
	one := func() int {
		if r.IntN(3) == 0 {
			return some(r, -99, 99)
		}
		return odd[r.IntN(len(odd))]
	}
	for range 200000 {
		n := api.Node{Base: one(), Cap: one(), Jitter: one()}
		k, seed := one(), uint64(one())
		if w := flowkeeper.Rest(n, k, seed); w != restOf(n, k, seed) {
			t.Fatalf("P6: Rest(%+v, %d, %d) = %d, want %d", n, k, seed, w, restOf(n, k, seed))
		}
	}
}

// P7: the sum, the Deadline, and which is less.
func TestBound(t *testing.T) {
	two := api.Flow{Deadline: span, Nodes: []api.Node{
		{Budget: 2, Close: 9, Beat: 1000, Base: 3, Cap: 20, Jitter: 5},
		{Budget: 3, Close: 7, Base: 1, Cap: 100, Jitter: 11, After: []int{0}},
	}}
	sum := 2*(9+20+5) + 3*(7+100+11)
	for _, c := range []struct{ deadline, gap, want int }{
		{span, 0, sum}, {span, 1, sum + 5}, {span, 40, sum + 200}, {span, -1, sum}, {span, math.MinInt, sum},
		{sum - 1, 0, sum - 1}, {sum, 0, sum}, {sum + 1, 0, sum}, {sum + 4, 1, sum + 4}, {sum + 5, 1, sum + 5}, {sum + 6, 1, sum + 5},
		{1, 0, 1}, {1, math.MaxInt, 1}, {span, span, span}, {span, math.MaxInt, span},
		{0, 0, 0}, {span + 1, 0, 0}, {-1, 0, 0},
	} {
		f := two
		f.Deadline = c.deadline
		if w := flowkeeper.Bound(f, c.gap); w != c.want {
			t.Errorf("P7: Deadline %d, gap %d: %d, want %d", c.deadline, c.gap, w, c.want)
		}
	}
}

// P7: great gaps: the sum goes up with them to the Deadline, and never round to less.
func TestBoundOfGreatGap(t *testing.T) {
	f := row(1)
	f.Deadline = span
	for _, c := range []struct{ gap, want int }{{span - 3, span - 1}, {span - 2, span}, {span - 1, span}, {span, span}, {span + 1, span}, {1 << 62, span}, {math.MaxInt, span}} {
		if w := flowkeeper.Bound(f, c.gap); w != c.want {
			t.Errorf("P7: gap %d: %d, want %d", c.gap, w, c.want)
		}
	}
	most := full()
	if w := flowkeeper.Bound(most, math.MaxInt); w != span {
		t.Errorf("P7: the greatest flow: %d", w)
	}
}

// P1, P7: any flows and gaps whatever.
func TestBoundOfAnyFlow(t *testing.T) {
	gaps := []int{math.MinInt, -1, 0, 1, 77, span - 1, span, span + 1, math.MaxInt}
	r := rand.New(rand.NewPCG(15, 17))
	for range 20000 {
		f := anyFlow(r)
		for i := range f.Nodes { // short ones too, or it would be the Deadline nearly always
			if n := &f.Nodes[i]; r.IntN(10) > 0 {
				n.Close, n.Base, n.Cap, n.Jitter = some(r, 1, 99), 1, some(r, 1, 99), some(r, 0, 99)
			}
		}
		if r.IntN(2) == 0 {
			spoil(r, &f)
		}
		gap := gaps[r.IntN(len(gaps))]
		if w := plain.Bound(f, gap); w != boundOf(f, gap) {
			t.Fatalf("P7: Bound(%+v, %d) = %d, want %d", f, gap, w, boundOf(f, gap))
		}
	}
}

func boundOf(f api.Flow, gap int) int {
	if wanted(f) != "well" {
		return 0
	}
	if gap < 0 {
		gap = 0
	}
	if gap > span {
		gap = span
	}
	left := f.Deadline
	for _, n := range f.Nodes {
		for range n.Budget {
			left -= n.Close + n.Cap + n.Jitter + gap
		}
	}
	return f.Deadline - max(left, 0)
}
