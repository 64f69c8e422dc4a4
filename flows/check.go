package flows

import (
	"math/bits"
	"slices"

	"flowkeeper/api"
)

func fault(e api.Errno, at int) error { return &api.Fault{Err: e, At: at} }

// Check: what is wrong with a flow; nil: nothing (P4).
func Check(f api.Flow) error {
	if !within(f.Deadline, 1, api.MaxSpan) || !within(len(f.Nodes), 1, api.MaxNodes) {
		return fault(api.ErrBound, -1)
	}
	for i, n := range f.Nodes {
		if !bounded(n) {
			return fault(api.ErrBound, i)
		}
		if !rising(n.After, len(f.Nodes)) {
			return fault(api.ErrEdge, i)
		}
	}
	if i, found := circling(f.Nodes); found {
		return fault(api.ErrCycle, i)
	}
	return nil
}

func within(n, least, most int) bool { return least <= n && n <= most }

// bounded: the numbers of a node are in their bounds.
func bounded(n api.Node) bool {
	return within(n.Budget, 1, api.MaxBudget) &&
		within(n.Close, 1, api.MaxSpan) &&
		within(n.Beat, 0, api.MaxSpan) &&
		within(n.Base, 1, api.MaxSpan) &&
		within(n.Cap, n.Base, api.MaxSpan) &&
		within(n.Jitter, 0, api.MaxSpan)
}

// rising: each is a node of so many, and greater than the one ahead of it.
func rising(after []int, nodes int) bool {
	last := -1
	for _, n := range after {
		if !within(n, last+1, nodes-1) {
			return false
		}
		last = n
	}
	return true
}

// circling: the first node that has no place in any order in which each stands behind all for which it waits. The edges are checked.
func circling(nodes []api.Node) (int, bool) {
	var placed uint // a bit a node: there are 12 at the most
	left := func(i int) bool { return placed>>i&1 == 0 }
again:
	for i, n := range nodes {
		if left(i) && !slices.ContainsFunc(n.After, left) {
			placed |= 1 << i
			goto again // it may be what one ahead of it waits for
		}
	}
	first := bits.TrailingZeros(^placed)
	return first, first < len(nodes)
}
