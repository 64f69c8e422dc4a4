package flows

import (
	"math"

	"flowkeeper/api"
)

// Rest: how long a node rests behind its k-th failure (P6). The node may be any, so what grows out of the ints stays at the last of them.
func Rest(n api.Node, k int, seed uint64) int {
	rest := n.Base
	for range min(max(k, 1), 64) - 1 { // 63 times: then all but 0 have come to the last of the ints, and stay there
		rest = twice(rest)
	}
	rest = min(rest, n.Cap)
	more := remainder(seed, n.Jitter)
	if rest > math.MaxInt-more {
		return math.MaxInt
	}
	return rest + more
}

func twice(n int) int {
	switch {
	case n > math.MaxInt/2:
		return math.MaxInt
	case n < math.MinInt/2:
		return math.MinInt
	}
	return 2 * n
}

// remainder: what seed leaves when it is divided by jitter + 1. A node that is no flow's may have that at 0 (nothing is left then) or below (as much is left as of the same number above 0).
func remainder(seed uint64, jitter int) int {
	by := uint64(jitter) + 1
	if jitter < 0 {
		by = -by
	}
	if by == 0 {
		return 0
	}
	return int(seed % by)
}

// Bound: ticks behind which a run has ended, if what is ready is polled within gap ticks (P7).
func Bound(f api.Flow, gap int) int {
	if Check(f) != nil {
		return 0
	}
	gap = min(max(gap, 0), api.MaxSpan)
	sum := 0
	for _, n := range f.Nodes {
		sum += n.Budget * (n.Close + n.Cap + n.Jitter + gap)
	}
	return min(f.Deadline, sum)
}
