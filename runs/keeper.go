// Package runs: runs of flows, the queue of what is ready, and the times that are due.
package runs

import (
	"iter"
	"slices"

	"flowkeeper/api"
	"flowkeeper/flows"
	"flowkeeper/rings"
	"flowkeeper/wheels"
)

// spot: a node of a run. (The node -1: the run itself.)
type spot struct {
	run  uint64
	node int
}

// Keeper: runs, and what of them is ready, at work and due. The zero one has no runs, and is at the time 0 with the seed 0 (P11).
//
// Whatever turns something asks keep first, which makes the call durable, when nothing else stands against it: if keep says an error, so does the call, and nothing turns (P24).
type Keeper struct {
	known     []*run             // the lowest id first
	ended     rings.Ring[uint64] // the known ones that have ended, as they did
	queue     rings.Ring[spot]
	timers    wheels.Wheel[timer]
	lastRun   uint64
	lastToken uint64
	seed      uint64
}

// Submit: a run more, of a flow that is well and that nobody writes into any more (P12).
func (k *Keeper) Submit(f api.Flow, keep func() error) (uint64, error) {
	full := len(k.known) >= api.MaxRuns
	if full && k.ended.Empty() {
		return 0, api.ErrMany
	}
	if err := keep(); err != nil {
		return 0, err
	}
	if full {
		k.forget()
	}
	k.lastRun++
	r := newRun(k.lastRun, f)
	k.known = append(k.known, r)
	k.set(timer{spot{r.id, -1}, deadline}, f.Deadline)
	k.ready(r, r.awake()...)
	return r.id, nil
}

// Poll: the first of the queue is handed out; false: there is none (P14).
func (k *Keeper) Poll(keep func() error) (api.Task, bool, error) {
	if k.queue.Empty() {
		return api.Task{}, false, nil
	}
	if err := keep(); err != nil {
		return api.Task{}, false, err
	}
	s, _ := k.queue.Pop()
	n := &k.find(s.run).nodes[s.node]
	k.lastToken++
	n.state = api.Working
	n.tries++
	n.token = k.lastToken
	k.set(timer{s, closing}, n.Close)
	k.awaitSign(s, n.Beat)
	return api.Task{Run: s.run, Node: s.node, Try: n.tries, Token: n.token}, true, nil
}

// Beat: a sign of life; the next one is awaited (P15).
func (k *Keeper) Beat(token uint64, keep func() error) error {
	r, i, err := k.task(token, keep)
	if err != nil {
		return err
	}
	k.awaitSign(spot{r.id, i}, r.nodes[i].Beat)
	return nil
}

// Complete: a task is done, which may be what others waited for (P16).
func (k *Keeper) Complete(token uint64, keep func() error) error {
	r, i, err := k.task(token, keep)
	if err != nil {
		return err
	}
	k.stop(spot{r.id, i}, closing, sign)
	r.nodes[i].state = api.Done
	k.ready(r, r.awake()...)
	k.settle(r)
	return nil
}

// Fail: a task failed (P17).
func (k *Keeper) Fail(token uint64, keep func() error) error {
	r, i, err := k.task(token, keep)
	if err != nil {
		return err
	}
	k.fail(r, i)
	return nil
}

// Cancel: a run is given up (P18).
func (k *Keeper) Cancel(id uint64, keep func() error) error {
	r := k.find(id)
	if r == nil || r.state != api.Running {
		return api.ErrRun
	}
	if err := keep(); err != nil {
		return err
	}
	k.end(r, api.Cancelled)
	return nil
}

// Seed: rests that are yet to begin hang on n (P17).
func (k *Keeper) Seed(n uint64, keep func() error) error {
	if err := keep(); err != nil {
		return err
	}
	k.seed = n
	return nil
}

// Tick: so many ticks pass, and what is due in them happens (P20).
func (k *Keeper) Tick(ticks uint64, keep func() error) error {
	if err := keep(); err != nil {
		return err
	}
	k.timers.Advance(ticks, k.happen)
	return nil
}

// Query: how far a run has come (P22).
func (k *Keeper) Query(id uint64) (api.Info, error) {
	r := k.find(id)
	if r == nil {
		return api.Info{}, api.ErrRun
	}
	info := api.Info{Run: id, State: r.state}
	for _, n := range r.nodes {
		info.Nodes = append(info.Nodes, n.state)
		info.Tries = append(info.Tries, n.tries)
	}
	return info, nil
}

// Clock: the time, and the seed (P22).
func (k *Keeper) Clock() (now, seed uint64) { return k.timers.Now(), k.seed }

// Runs: a walk over those runs that are known when it begins, the lowest id first (P22).
func (k *Keeper) Runs() iter.Seq[uint64] {
	return func(yield func(uint64) bool) {
		for _, r := range slices.Clone(k.known) { // who walks may turn what is known
			if !yield(r.id) {
				return
			}
		}
	}
}

// Timers: what is due, in the order in which it happens (P22).
func (k *Keeper) Timers() []api.Timer {
	var list []api.Timer
	for t, at := range k.timers.All() {
		list = append(list, api.Timer{Run: t.run, Node: t.node, At: at})
	}
	return list
}

// Queue: what is ready, in order (P22).
func (k *Keeper) Queue() []api.Task {
	var list []api.Task
	for _, s := range k.queue.List() {
		list = append(list, api.Task{Run: s.run, Node: s.node, Try: k.find(s.run).nodes[s.node].tries + 1})
	}
	return list
}

// find: the run of that id; nil: it is not known.
func (k *Keeper) find(id uint64) *run {
	for _, r := range k.known {
		if r.id == id {
			return r
		}
	}
	return nil
}

// forget: the run that ended first is not known any more (P12).
func (k *Keeper) forget() {
	first, _ := k.ended.Pop()
	k.known = slices.DeleteFunc(k.known, func(r *run) bool { return r.id == first })
}

// task: the node that is at work by that token; what is said of it is kept.
func (k *Keeper) task(token uint64, keep func() error) (*run, int, error) {
	r, i, ok := k.working(token)
	if !ok {
		return nil, 0, api.ErrToken
	}
	return r, i, keep()
}

// working: the node that is at work by that token.
func (k *Keeper) working(token uint64) (*run, int, bool) {
	for _, r := range k.known {
		for i, n := range r.nodes {
			if n.state == api.Working && n.token == token {
				return r, i, true
			}
		}
	}
	return nil, 0, false
}

// ready: these nodes of a run stand in the queue, behind all that do (P13).
func (k *Keeper) ready(r *run, nodes ...int) {
	for _, i := range nodes {
		r.nodes[i].state = api.Ready
		k.queue.Push(spot{r.id, i})
	}
}

// fail: a node that is at work fails: it rests, or it is dead (P17).
func (k *Keeper) fail(r *run, i int) {
	at, n := spot{r.id, i}, &r.nodes[i]
	k.stop(at, closing, sign)
	if n.tries < n.Budget {
		n.state = api.Resting
		k.set(timer{at, rest}, flows.Rest(n.Node, n.tries, k.seed))
		return
	}
	n.state = api.Dead
	r.skip()
	k.settle(r)
}

// settle: the run ends, if its nodes say so (P19).
func (k *Keeper) settle(r *run) {
	if state := r.outcome(); state != api.Running {
		k.end(r, state)
	}
}

// end: the run has ended: nothing of it is ready, at work or due (P19).
func (k *Keeper) end(r *run, state int) {
	r.end(state)
	k.queue.Drop(func(s spot) bool { return s.run == r.id })
	k.stop(spot{r.id, -1}, deadline)
	for i := range r.nodes {
		k.stop(spot{r.id, i}, closing, sign, rest)
	}
	k.ended.Push(r.id)
}
