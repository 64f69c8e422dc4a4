// Package flowkeeper: flows of tasks that are handed out, tried again, timed, and kept through any fall of a disk: see DOC.md.
package flowkeeper

import (
	"flowkeeper/api"
	"flowkeeper/flows"
	"flowkeeper/logs"
	"flowkeeper/runs"
	"flowkeeper/wheels"
)

// Encode: the bytes of a flow (P3, P4).
func Encode(f api.Flow) ([]byte, error) { return flows.Encode(f) }

// Decode: the flow of bytes (P5).
func Decode(b []byte) (api.Flow, error) { return flows.Decode(b) }

// Rest: how long to wait behind the k-th failure (P6).
func Rest(n api.Node, k int, seed uint64) int { return flows.Rest(n, k, seed) }

// Bound: ticks behind which a run has ended (P7).
func Bound(f api.Flow, gap int) int { return flows.Bound(f, gap) }

// Wheel is timers. A nil one has none, and no room for any.
type Wheel struct{ timers wheels.Wheel[int] }

// NewWheel makes a wheel without timers, at that time (P8).
func NewWheel(now uint64) *Wheel { return &Wheel{timers: wheels.New[int](now)} }

// Set: a timer is due at that time (P9).
func (w *Wheel) Set(id int, at uint64) error {
	if w == nil {
		return api.ErrMany
	}
	return w.timers.Set(id, at)
}

// Cancel: it is due no more (P9).
func (w *Wheel) Cancel(id int) error {
	if w == nil {
		return api.ErrTimer
	}
	return w.timers.Cancel(id)
}

// Next: when the first is due (P10).
func (w *Wheel) Next() (uint64, bool) {
	if w == nil {
		return 0, false
	}
	return w.timers.Next()
}

// Advance: so many ticks pass: what was due in them (P10).
func (w *Wheel) Advance(ticks uint64) []api.Fired {
	if w == nil {
		return nil
	}
	var came []api.Fired
	w.timers.Advance(ticks, func(id int, at uint64) {
		came = append(came, api.Fired{Id: id, At: at})
	})
	return came
}

// Engine is runs of flows, and a queue of what is ready. A nil one, and one that Open did not make, has no disk: it has no runs, and what would turn something answers ErrDown.
type Engine struct {
	log  logs.Log // of the calls that turned something since the last Snapshot, and of what there was then
	runs runs.Keeper
}

// Open opens the engine of a disk: what it was at the last Snapshot, and the calls that are kept behind that are made once more (P11, P23).
func Open(d api.Disk) (*Engine, error) {
	if d == nil {
		return nil, api.ErrDown
	}
	e := &Engine{}
	log, err := logs.Open(d, e.runs.Restore, e.runs.Replay)
	if err != nil {
		return nil, err
	}
	e.log = log
	return e, nil
}

// keeper: what the engine keeps; of a nil one that is nothing.
func (e *Engine) keeper() *runs.Keeper {
	if e == nil {
		return &runs.Keeper{}
	}
	return &e.runs
}

// keeps: what makes a call durable, ahead of anything that it turns (P23, P24).
func (e *Engine) keeps(c api.Command) func() error {
	return func() error {
		if e == nil {
			return api.ErrDown
		}
		return e.log.Add(runs.Record(c))
	}
}

// Submit: a run more (P12).
func (e *Engine) Submit(b []byte) (uint64, error) {
	f, err := flows.Decode(b)
	if err != nil {
		return 0, err
	}
	return e.keeper().Submit(f, e.keeps(api.Command{Op: api.Submit, Data: string(b)}))
}

// Poll: the first that is ready is handed out (P14).
func (e *Engine) Poll() (api.Task, bool, error) {
	return e.keeper().Poll(e.keeps(api.Command{Op: api.Poll}))
}

// Beat: a sign of life (P15).
func (e *Engine) Beat(token uint64) error {
	return e.keeper().Beat(token, e.keeps(api.Command{Op: api.Beat, N: token}))
}

// Complete: a task is done (P16).
func (e *Engine) Complete(token uint64) error {
	return e.keeper().Complete(token, e.keeps(api.Command{Op: api.Complete, N: token}))
}

// Fail: a task failed (P17).
func (e *Engine) Fail(token uint64) error {
	return e.keeper().Fail(token, e.keeps(api.Command{Op: api.Fail, N: token}))
}

// Cancel: a run is given up (P18).
func (e *Engine) Cancel(run uint64) error {
	return e.keeper().Cancel(run, e.keeps(api.Command{Op: api.Cancel, N: run}))
}

// Seed: what is added to waits hangs on it (P17).
func (e *Engine) Seed(n uint64) error {
	return e.keeper().Seed(n, e.keeps(api.Command{Op: api.Seed, N: n}))
}

// Tick: so many ticks pass (P20).
func (e *Engine) Tick(ticks uint64) error {
	return e.keeper().Tick(ticks, e.keeps(api.Command{Op: api.Tick, N: ticks}))
}

// Query: a run (P22).
func (e *Engine) Query(run uint64) (api.Info, error) { return e.keeper().Query(run) }

// Clock: the time, and the seed (P22).
func (e *Engine) Clock() (uint64, uint64) { return e.keeper().Clock() }

// Runs walks through the runs that are known (P22).
func (e *Engine) Runs() func(yield func(run uint64) bool) { return e.keeper().Runs() }

// Timers: what is due, and when (P22).
func (e *Engine) Timers() []api.Timer { return e.keeper().Timers() }

// Queue: what is ready, in order (P22).
func (e *Engine) Queue() []api.Task { return e.keeper().Queue() }

// Snapshot: what is durable is written anew, and what was written ahead of that goes (P27).
func (e *Engine) Snapshot() error {
	if e == nil {
		return api.ErrDown
	}
	return e.log.Renew(e.runs.State())
}
