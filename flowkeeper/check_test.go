package flowkeeper_test

import (
	"math"
	"strconv"
	"testing"

	"flowkeeper/api"
	"flowkeeper/flowkeeper"
)

// checkFlow: Encode says that of a flow, Decode of its bytes (if they can be written), and Bound knows whether it is well (P4, P5, P7).
func checkFlow(t *testing.T, what string, f api.Flow, want string) {
	t.Helper()
	b, err := flowkeeper.Encode(f)
	if told(t, err) != want || (b != nil) != (err == nil) {
		t.Errorf("P4: %s: %x, %v, want %s", what, b, err, want)
	}
	if n := flowkeeper.Bound(f, 1); (n > 0) != (want == "well") || n < 0 {
		t.Errorf("P7: %s: Bound is %d, but it is %s", what, n, want)
	}
	if !writable(f) {
		return
	}
	g, err := flowkeeper.Decode(written(f))
	if told(t, err) != want || err != nil && !same(g, api.Flow{}) {
		t.Errorf("P5: %s: %+v, %v, want %s", what, g, err, want)
	}
}

// writable: each number of the flow has three bytes at the most.
func writable(f api.Flow) bool {
	l := []int{f.Deadline}
	for _, n := range f.Nodes {
		l = append(append(l, n.Budget, n.Close, n.Beat, n.Base, n.Cap, n.Jitter), n.After...)
	}
	for _, n := range l {
		if n < 0 || n >= 1<<21 {
			return false
		}
	}
	return true
}

// P4: each bound, from both sides, at each node.
func TestBounds(t *testing.T) {
	type bound struct {
		what        string
		least, most int
		field       func(n *api.Node) *int
	}
	for _, c := range []bound{
		{"Budget", 1, 5, func(n *api.Node) *int { return &n.Budget }},
		{"Close", 1, span, func(n *api.Node) *int { return &n.Close }},
		{"Beat", 0, span, func(n *api.Node) *int { return &n.Beat }},
		{"Base", 1, span, func(n *api.Node) *int { return &n.Base }},
		{"Cap", 7, span, func(n *api.Node) *int { return &n.Cap }},
		{"Jitter", 0, span, func(n *api.Node) *int { return &n.Jitter }},
	} {
		for at := range 3 {
			for _, v := range []int{math.MinInt, -span, -1, 0, c.least - 1, c.least, c.least + 1, c.most - 1, c.most, c.most + 1, 1<<21 - 1, 1 << 32, math.MaxInt} {
				f := row(3)
				n := &f.Nodes[at]
				n.Base, n.Cap = 7, 7
				if c.what == "Base" {
					n.Cap = span
				}
				*c.field(n) = v
				want := "well"
				if v < c.least || v > c.most {
					want = said(api.ErrBound, at)
				}
				checkFlow(t, c.what+" "+strconv.Itoa(v), f, want)
			}
		}
	}
}

// P4: a Cap is not less than its Base, whatever Base is.
func TestCapOfBase(t *testing.T) {
	for _, c := range []struct {
		base, cap int
		want      string
	}{
		{1, 1, "well"}, {2, 1, "2 at 1"}, {2, 2, "well"}, {2, 3, "well"}, {span, span, "well"}, {span, span - 1, "2 at 1"},
		{span + 1, span + 1, "2 at 1"}, {span, span + 1, "2 at 1"}, {0, 0, "2 at 1"}, {0, 5, "2 at 1"}, {-1, 5, "2 at 1"},
	} {
		f := row(2)
		f.Nodes[1].Base, f.Nodes[1].Cap = c.base, c.cap
		checkFlow(t, "Base "+strconv.Itoa(c.base)+", Cap "+strconv.Itoa(c.cap), f, c.want)
	}
}

// P4: Deadline, and how many nodes: these are at -1, ahead of whatever the nodes are.
func TestBoundsOfFlow(t *testing.T) {
	for _, c := range []struct {
		deadline int
		want     string
	}{{math.MinInt, "2 at -1"}, {-1, "2 at -1"}, {0, "2 at -1"}, {1, "well"}, {2, "well"}, {span - 1, "well"}, {span, "well"}, {span + 1, "2 at -1"}, {1 << 32, "2 at -1"}, {math.MaxInt, "2 at -1"}} {
		f := row(2)
		f.Deadline = c.deadline
		checkFlow(t, "Deadline "+strconv.Itoa(c.deadline), f, c.want)
	}
	for n := range 40 {
		want := "well"
		if n < 1 || n > 12 {
			want = "2 at -1"
		}
		checkFlow(t, strconv.Itoa(n)+" nodes", row(n), want)
	}
	bad := waits([]int{9}, []int{1})
	bad.Nodes[0].Budget, bad.Deadline = 0, 0
	checkFlow(t, "all is wrong", bad, "2 at -1")
	checkFlow(t, "13 nodes without a budget", api.Flow{Deadline: 1, Nodes: make([]api.Node, 13)}, "2 at -1")
	checkFlow(t, "no flow at all", api.Flow{}, "2 at -1")
}

// P4: edges: to nodes of the flow, that rise.
func TestEdges(t *testing.T) {
	for _, c := range []struct {
		what string
		f    api.Flow
		want string
	}{
		{"none", waits(nil, nil, nil), "well"},
		{"all that can be", waits(nil, []int{0}, []int{0, 1}), "well"},
		{"to those behind", waits([]int{1, 2}, []int{2}, nil), "well"},
		{"with gaps", waits(nil, nil, nil, []int{0, 2}), "well"},
		{"the last node", waits([]int{2}, nil, nil), "well"},
		{"the node behind the last", waits([]int{3}, nil, nil), "3 at 0"},
		{"the node ahead of the first", waits(nil, []int{-1}, nil), "3 at 1"},
		{"far away", waits(nil, nil, []int{math.MaxInt}), "3 at 2"},
		{"far away, the other way", waits(nil, nil, []int{math.MinInt}), "3 at 2"},
		{"well, then nowhere", waits(nil, nil, []int{0, 1, 3}), "3 at 2"},
		{"nowhere, then well", waits(nil, nil, []int{-1, 0}), "3 at 2"},
		{"the same twice", waits(nil, nil, []int{0, 0}), "3 at 2"},
		{"the same twice, at the end", waits(nil, nil, nil, []int{0, 1, 1}), "3 at 3"},
		{"falling", waits(nil, nil, []int{1, 0}), "3 at 2"},
		{"rising, then falling", waits(nil, nil, nil, []int{0, 2, 1}), "3 at 3"},
		{"more than there are", waits(nil, []int{0, 1, 2, 3}), "3 at 1"},
		{"a node of twelve", waits(nil, nil, nil, nil, nil, nil, nil, nil, nil, nil, nil, []int{12}), "3 at 11"},
		{"the twelfth of twelve", waits([]int{11}, nil, nil, nil, nil, nil, nil, nil, nil, nil, nil, nil), "well"},
	} {
		checkFlow(t, c.what, c.f, c.want)
	}
}

// P4: circles: the first node that waits for itself, or for one that does, by whatever others.
func TestCircles(t *testing.T) {
	for _, c := range []struct {
		what string
		f    api.Flow
		want string
	}{
		{"itself, alone", waits([]int{0}), "4 at 0"},
		{"itself, in the midst", waits(nil, []int{1}, nil), "4 at 1"},
		{"itself, the last", waits(nil, nil, []int{0, 1, 2}), "4 at 2"},
		{"two", waits(nil, []int{2}, []int{1}), "4 at 1"},
		{"three", waits(nil, []int{2}, []int{3}, []int{1}), "4 at 1"},
		{"all twelve", waits([]int{1}, []int{2}, []int{3}, []int{4}, []int{5}, []int{6}, []int{7}, []int{8}, []int{9}, []int{10}, []int{11}, []int{0}), "4 at 0"},
		{"twelve in a row, and none", waits([]int{1}, []int{2}, []int{3}, []int{4}, []int{5}, []int{6}, []int{7}, []int{8}, []int{9}, []int{10}, []int{11}, nil), "well"},
		{"twelve in a row, the last itself", waits([]int{1}, []int{2}, []int{3}, []int{4}, []int{5}, []int{6}, []int{7}, []int{8}, []int{9}, []int{10}, []int{11}, []int{11}), "4 at 0"},
		{"the first waits for a circle, and is none of it", waits([]int{3}, nil, []int{3}, []int{2}), "4 at 0"},
		{"it waits for one that waits for a circle", waits([]int{1}, []int{2}, []int{3}, []int{3}), "4 at 0"},
		{"those for which a circle waits are well", waits(nil, []int{0}, []int{1, 3}, []int{2}), "4 at 2"},
		{"a circle behind well ones", waits(nil, []int{0}, []int{0, 1}, []int{4}, []int{3}), "4 at 3"},
		{"two ways to one node are no circle", waits([]int{1, 2}, []int{3}, []int{3}, nil), "well"},
		{"two circles", waits(nil, []int{3}, []int{4}, []int{1}, []int{2}), "4 at 1"},
	} {
		checkFlow(t, c.what, c.f, c.want)
	}
}

// P4: of several errors the one named first: node by node its bounds, then its edges; then circles.
func TestWhichErrorIsFirst(t *testing.T) {
	for i, c := range []struct {
		turn func(f *api.Flow)
		want string
	}{
		{func(f *api.Flow) {}, "well"},
		{func(f *api.Flow) { f.Nodes[1].Jitter = -1; f.Nodes[1].After = []int{7} }, "2 at 1"},
		{func(f *api.Flow) { f.Nodes[1].After = []int{7}; f.Nodes[2].Budget = 6 }, "3 at 1"},
		{func(f *api.Flow) { f.Nodes[2].Budget = 6; f.Nodes[1].Cap = 0 }, "2 at 1"},
		{func(f *api.Flow) { f.Nodes[2].After = []int{7}; f.Nodes[1].Cap = 0 }, "2 at 1"},
		{func(f *api.Flow) { f.Nodes[2].After = []int{7}; f.Nodes[1].After = []int{0, 0} }, "3 at 1"},
		{func(f *api.Flow) { f.Nodes[0].After = []int{0}; f.Nodes[3].After = []int{7} }, "3 at 3"},
		{func(f *api.Flow) { f.Nodes[0].After = []int{0}; f.Nodes[3].Beat = span + 1 }, "2 at 3"},
		{func(f *api.Flow) { f.Nodes[0].After = []int{0}; f.Deadline = span + 1 }, "2 at -1"},
		{func(f *api.Flow) { f.Nodes[0].After = []int{0}; f.Nodes[2].After = []int{2} }, "4 at 0"},
	} {
		f := row(4)
		c.turn(&f)
		checkFlow(t, "row "+strconv.Itoa(i), f, c.want)
	}
}
