package runs

import (
	"math"
	"slices"

	"flowkeeper/api"
	"flowkeeper/flows"
	"flowkeeper/wheels"
)

// image is all that a keeper is, in lists. A run is named there by its place among those that are known, which is shorter than its id.
type image struct {
	now, seed, lastRun, lastToken uint64
	known                         []run
	ended                         []int
	queue                         []place
	timers                        []due
}

// place is a spot: the run's place, and the node.
type place struct{ run, node int }

// due: a timer, and how many ticks are left until it comes. They stand in the order in which they come.
type due struct {
	place
	kind kind
	left uint64
}

// State: all that the keeper is, as bytes (P27): even of the fullest one no more than 3,200.
func (k *Keeper) State() []byte {
	var t tape
	k.image().over(&t)
	return t.bytes
}

// Restore: the keeper is as the one was of which that is the State. What is no state turns nothing.
func (k *Keeper) Restore(state []byte) {
	t := tape{bytes: state, back: true}
	var m image
	m.over(&t)
	if !t.torn && len(t.bytes) == 0 && m.sound() {
		m.fill(k)
	}
}

func (k *Keeper) image() *image {
	m := &image{now: k.timers.Now(), seed: k.seed, lastRun: k.lastRun, lastToken: k.lastToken}
	for _, r := range k.known {
		m.known = append(m.known, *r)
	}
	for _, id := range k.ended.List() {
		m.ended = append(m.ended, m.placeOf(id))
	}
	for _, s := range k.queue.List() {
		m.queue = append(m.queue, place{m.placeOf(s.run), s.node})
	}
	for t, at := range k.timers.All() {
		m.timers = append(m.timers, due{place{m.placeOf(t.run), t.node}, t.kind, at - m.now})
	}
	return m
}

func (m *image) placeOf(id uint64) int {
	return slices.IndexFunc(m.known, func(r run) bool { return r.id == id })
}

// fill: the keeper is the one of which that is the image.
func (m *image) fill(k *Keeper) {
	*k = Keeper{timers: wheels.New[timer](m.now), seed: m.seed, lastRun: m.lastRun, lastToken: m.lastToken}
	for _, r := range m.known {
		k.known = append(k.known, &r)
	}
	for _, i := range m.ended {
		k.ended.Push(m.known[i].id)
	}
	for _, p := range m.queue {
		k.queue.Push(m.spotOf(p))
	}
	for _, d := range m.timers {
		k.timers.Set(timer{m.spotOf(d.place), d.kind}, m.now+d.left)
	}
}

func (m *image) spotOf(p place) spot { return spot{m.known[p.run].id, p.node} }

// over: the image passes over the tape.
func (m *image) over(t *tape) {
	pass(t, &m.now, &m.seed, &m.lastRun, &m.lastToken)
	passList(t, &m.known, func(r *run) { r.over(t) })
	passNumbers(t, &m.ended)
	passList(t, &m.queue, func(p *place) { p.over(t) })
	passList(t, &m.timers, func(d *due) { d.over(t) })
}

func (r *run) over(t *tape) {
	pass(t, &r.id)
	pass(t, &r.state)
	passList(t, &r.nodes, func(n *node) { n.over(t) })
}

func (n *node) over(t *tape) {
	of := flows.NumbersOf(&n.Node)
	pass(t, of[:]...)
	passNumbers(t, &n.After)
	pass(t, &n.state, &n.tries)
	pass(t, &n.token)
}

func (p *place) over(t *tape) {
	node := p.node + 1 // that of a deadline is -1
	pass(t, &p.run, &node)
	p.node = node - 1
}

func (d *due) over(t *tape) {
	d.place.over(t)
	pass(t, &d.kind)
	pass(t, &d.left)
}

// sound: nothing is named that is not there. What State has written always is; but what was read back may be any numbers, and no call may go wrong by them (P1).
func (m *image) sound() bool {
	last := uint64(0)
	for _, r := range m.known {
		if r.id <= last || !r.sound() {
			return false
		}
		last = r.id
	}
	if last > m.lastRun || m.lastRun > math.MaxInt64 { // or an id would come again
		return false
	}
	unended := func(i int) bool { return !m.has(i) || m.known[i].state == api.Running }
	nowhere := func(p place) bool { return !m.hasNode(p) }
	never := func(d due) bool { return !m.comes(d) }
	return !slices.ContainsFunc(m.ended, unended) && !slices.ContainsFunc(m.queue, nowhere) && !slices.ContainsFunc(m.timers, never)
}

// sound: each node waits for nodes that are there, and none is at work when the run has ended.
func (r *run) sound() bool {
	nowhere := func(a int) bool { return !within(a, len(r.nodes)) }
	for _, n := range r.nodes {
		if slices.ContainsFunc(n.After, nowhere) || n.state == api.Working && r.state != api.Running {
			return false
		}
	}
	return true
}

func within(i, count int) bool { return 0 <= i && i < count }

// has: there is a run at that place.
func (m *image) has(i int) bool { return within(i, len(m.known)) }

// hasNode: there is such a node, and its run is running: nothing of another is ready, at work or due.
func (m *image) hasNode(p place) bool {
	return m.has(p.run) && m.known[p.run].state == api.Running && within(p.node, len(m.known[p.run].nodes))
}

// comes: there is what is due.
func (m *image) comes(d due) bool {
	if d.kind == deadline {
		return d.node == -1 && m.hasNode(place{d.run, 0})
	}
	return m.hasNode(d.place) && closing <= d.kind && d.kind <= rest
}
