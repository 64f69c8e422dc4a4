package flowkeeper_test

import (
	"bytes"
	"fmt"
	"maps"
	"slices"
	"testing"

	"flowkeeper/api"
	"flowkeeper/flowkeeper"
)

// files is a disk that is well; with an err it says that, whatever it is told.
type files struct {
	all map[string][]byte
	err error
}

func (d *files) Read(name string) ([]byte, error) {
	b, ok := d.all[name]
	if d.err == nil && !ok {
		return nil, api.ErrNone
	}
	return bytes.Clone(b), d.err
}

func (d *files) Write(name string, data []byte) error {
	if d.err == nil {
		d.all[name] = bytes.Clone(data)
	}
	return d.err
}

func (d *files) Append(name string, data []byte) error {
	if d.err == nil {
		d.all[name] = append(d.all[name], data...)
	}
	return d.err
}

func (d *files) Remove(name string) error {
	if _, ok := d.all[name]; d.err == nil && !ok {
		return api.ErrNone
	}
	if d.err == nil {
		delete(d.all, name)
	}
	return d.err
}

func (d *files) Names() ([]string, error) {
	if d.err != nil {
		return nil, d.err
	}
	return slices.Sorted(maps.Keys(d.all)), nil
}

func (d *files) Sync() error { return d.err }

// desk is an engine that is asked.
type desk struct {
	t *testing.T
	e *flowkeeper.Engine
}

func newDesk(t *testing.T) desk {
	t.Helper()
	e, err := flowkeeper.Open(&files{all: map[string][]byte{}})
	if e == nil || err != nil {
		t.Fatalf("P11: Open = %v, %v", e, err)
	}
	return desk{t, e}
}

// submit: the id of a run of that flow.
func (d desk) submit(f api.Flow) uint64 {
	d.t.Helper()
	n, err := d.e.Submit(written(f))
	if err != nil {
		d.t.Fatalf("P12: Submit(%+v) = %d, %v", f, n, err)
	}
	return n
}

// poll: what is handed out: run, node, try, token. It answers the token.
func (d desk) poll(want string) uint64 {
	d.t.Helper()
	x, ok, err := d.e.Poll()
	if got := fmt.Sprint(x, ok); got != want+" true" || err != nil {
		d.t.Fatalf("P14: Poll = %s, %v, want %s true", got, err, want)
	}
	return x.Token
}

func (d desk) pollNone() {
	d.t.Helper()
	if x, ok, err := d.e.Poll(); x != (api.Task{}) || ok || err != nil {
		d.t.Fatalf("P14: Poll = %v, %v, %v, want nothing", x, ok, err)
	}
}

// well: none of these calls had an error.
func (d desk) well(errs ...error) {
	d.t.Helper()
	for i, err := range errs {
		if err != nil {
			d.t.Fatalf("call %d: %v", i, err)
		}
	}
}

// bad: that error and nothing else comes of each of these calls, and nothing turns.
func (d desk) bad(want error, calls ...func() error) {
	d.t.Helper()
	was := d.all()
	for i, call := range calls {
		if err := call(); err != want {
			d.t.Fatalf("call %d: %v, want %v", i, err, want)
		}
		if now := d.all(); now != was {
			d.t.Fatalf("call %d: an error, and it turned\n%s\nto\n%s", i, was, now)
		}
	}
}

// noToken: there is no task at work by any of these.
func (d desk) noToken(tokens ...uint64) {
	d.t.Helper()
	for _, n := range tokens {
		d.bad(api.ErrToken, func() error { return d.e.Beat(n) }, func() error { return d.e.Complete(n) }, func() error { return d.e.Fail(n) })
	}
}

// says: of a run its state, and of its nodes the states and tries.
func (d desk) says(run uint64, want string) {
	d.t.Helper()
	x, err := d.e.Query(run)
	if got := fmt.Sprint(x.State, x.Nodes, x.Tries); got != want || x.Run != run || err != nil {
		d.t.Fatalf("P22: run %d: %s, %v, want %s", run, got, err, want)
	}
}

// due: of which run and node, and when.
func (d desk) due(want string) {
	d.t.Helper()
	if got := fmt.Sprint(d.e.Timers()); got != want {
		d.t.Fatalf("P20, P22: Timers = %s, want %s", got, want)
	}
}

// ready: run, node, try, and no token.
func (d desk) ready(want string) {
	d.t.Helper()
	if got := fmt.Sprint(d.e.Queue()); got != want {
		d.t.Fatalf("P13, P22: Queue = %s, want %s", got, want)
	}
}

func (d desk) runs() []uint64 {
	var l []uint64
	for n := range d.e.Runs() {
		l = append(l, n)
	}
	return l
}

// all is whatever there is to be asked.
func (d desk) all() string {
	now, seed := d.e.Clock()
	s := fmt.Sprintln("clock", now, seed, "timers", d.e.Timers(), "queue", d.e.Queue())
	for _, n := range d.runs() {
		x, err := d.e.Query(n)
		s += fmt.Sprintln(x, err)
	}
	return s
}

// plainly: so many nodes of a run without haste: each waits for the nodes that are told of it.
func plainly(after ...[]int) api.Flow {
	f := waits(after...)
	f.Deadline = 1000
	for i := range f.Nodes {
		f.Nodes[i] = api.Node{Budget: 2, Close: 100, Base: 10, Cap: 10, After: f.Nodes[i].After}
	}
	return f
}
