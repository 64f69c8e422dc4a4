package runs

import "flowkeeper/api"

// kind: what of a spot is due.
type kind int

const (
	deadline kind = iota // of the run
	closing              // a task must have ended
	sign                 // a task must have given a sign of life
	rest                 // a rest is over
)

// timer: by it the wheel tells one thing that is due from another.
type timer struct {
	spot
	kind kind
}

// set: that is due so many ticks from now, and no more when it was. The wheel has room: six runs of twelve nodes, each with an end and a sign, have 150 timers.
func (k *Keeper) set(t timer, ticks int) {
	k.timers.Cancel(t)
	k.timers.Set(t, k.timers.Now()+uint64(ticks))
}

// stop: these are due no more at that spot, if they were.
func (k *Keeper) stop(at spot, kinds ...kind) {
	for _, what := range kinds {
		k.timers.Cancel(timer{at, what})
	}
}

// awaitSign: a sign of life is to come within so many ticks; 0: none is asked for (P14, P15).
func (k *Keeper) awaitSign(at spot, ticks int) {
	if ticks != 0 {
		k.set(timer{at, sign}, ticks)
	}
}

// happen: what is due happens, at its time (P20). It is of a run that is running: a run that ends takes its timers with it.
func (k *Keeper) happen(t timer, _ uint64) {
	r := k.find(t.run)
	switch t.kind {
	case deadline:
		k.end(r, api.Late)
	case closing, sign:
		k.fail(r, t.node)
	case rest:
		k.ready(r, t.node)
	}
}
