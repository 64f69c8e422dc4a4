package runs

import (
	"slices"

	"flowkeeper/api"
)

// run: a flow that is under way, or has ended.
type run struct {
	id    uint64
	state int
	nodes []node
}

// node: a node of a flow, and how far it has come.
type node struct {
	api.Node
	state int
	tries int
	token uint64 // of its last try
}

// newRun: a run of a flow that is well; all of its nodes wait (P12).
func newRun(id uint64, f api.Flow) *run {
	r := &run{id: id, state: api.Running}
	for _, n := range f.Nodes {
		r.nodes = append(r.nodes, node{Node: n, state: api.Waiting})
	}
	return r
}

// awake: the nodes that wait though all for which they wait are done, in their order (P13).
func (r *run) awake() []int {
	var list []int
nodes:
	for i, n := range r.nodes {
		if n.state != api.Waiting {
			continue
		}
		for _, a := range n.After {
			if r.nodes[a].state != api.Done {
				continue nodes
			}
		}
		list = append(list, i)
	}
	return list
}

// skip: the nodes that wait for one that is dead, by whatever others, are skipped (P17).
func (r *run) skip() {
	lost := func(i int) bool {
		state := r.nodes[i].state
		return state == api.Dead || state == api.Skipped
	}
again:
	for i, n := range r.nodes {
		if n.state == api.Waiting && slices.ContainsFunc(n.After, lost) {
			r.nodes[i].state = api.Skipped
			goto again // it may be what one ahead of it waits for
		}
	}
}

// outcome: what the states of the nodes make of the run (P19).
func (r *run) outcome() int {
	state := api.Succeeded
	for _, n := range r.nodes {
		switch n.state {
		case api.Done:
		case api.Dead, api.Skipped:
			state = api.Failed
		default:
			return api.Running
		}
	}
	return state
}

// end: the run has come to that state, and what is neither done nor dead is skipped (P19). Nobody asks for its flow any more.
func (r *run) end(state int) {
	r.state = state
	for i := range r.nodes {
		n := &r.nodes[i]
		if n.state != api.Done && n.state != api.Dead {
			n.state = api.Skipped
		}
		*n = node{state: n.state, tries: n.tries}
	}
}
