package flowkeeper_test

import (
	"errors"
	"fmt"
	"maps"
	"slices"
	"testing"

	"flowkeeper/api"
	"flowkeeper/flowkeeper"
)

// trouble: what a disk makes of a call that writes.
type trouble int

const (
	none     trouble = iota
	goesDown         // the power fails: any of the call may be kept; there is nothing more to be had until the disk is up again
	isFull           // nothing of it is done, and all is well again
	smokes           // an error of the disk's own, though all of it is done, and all is well again
	halves           // the same, and a beginning of it is done
)

var errSmoke = errors.New("smoke")

// says: the error that comes of it.
func (x trouble) says() error { return []error{nil, api.ErrDown, api.ErrFull, errSmoke, errSmoke}[x] }

// change: a disk was told it, and has not made it durable yet.
type change struct {
	what, name, data string
}

// apply: what the files are behind it.
func (c change) apply(files map[string]string) {
	switch c.what {
	case "write":
		files[c.name] = c.data
	case "append":
		files[c.name] += c.data
	case "remove":
		delete(files, c.name)
	}
}

// shaky is a disk that gets into trouble.
type shaky struct {
	durable, now map[string]string
	pending      []change
	left         int // calls that write until the trouble
	next         trouble
	down         bool
	calls        int // of any kind
}

// newShaky: a disk that is well, with these files.
func newShaky(files map[string]string) *shaky {
	d := &shaky{}
	d.fall(files)
	return d
}

// fall: the disk goes down, and is up again with these files.
func (d *shaky) fall(files map[string]string) {
	*d = shaky{durable: map[string]string{}, now: map[string]string{}, calls: d.calls}
	maps.Copy(d.durable, files)
	maps.Copy(d.now, files)
}

// copy: another disk that is just as this one.
func (d *shaky) copy() *shaky {
	c := *d
	c.durable, c.now, c.pending = maps.Clone(d.durable), maps.Clone(d.now), slices.Clone(d.pending)
	return &c
}

// expect: the trouble comes behind so many calls that write.
func (d *shaky) expect(left int, x trouble) { d.left, d.next = left, x }

func (d *shaky) told(c change) error {
	d.calls++
	if d.down {
		return api.ErrDown
	}
	x := d.comes()
	if _, ok := d.now[c.name]; !ok && c.what == "remove" && x == none {
		return api.ErrNone
	}
	switch done := x == none || x == smokes; {
	case x == isFull || c.what == "sync" && !done:
	case c.what == "sync":
		d.durable, d.pending = maps.Clone(d.now), nil
	default:
		if x == halves {
			c.data = c.data[:len(c.data)/2]
		}
		c.apply(d.now)
		d.pending = append(d.pending, c)
	}
	d.down = x == goesDown
	return x.says()
}

// comes: the trouble, when it is to come now.
func (d *shaky) comes() trouble {
	if d.left > 0 || d.next == none {
		d.left--
		return none
	}
	x := d.next
	d.next = none
	return x
}

func (d *shaky) Write(name string, data []byte) error {
	defer scribble(data)
	return d.told(change{"write", name, string(data)})
}

func (d *shaky) Append(name string, data []byte) error {
	defer scribble(data)
	return d.told(change{"append", name, string(data)})
}

// scribble: what is handed to a disk is the disk's.
func scribble(data []byte) {
	for i := range data {
		data[i] ^= 0x55
	}
}

func (d *shaky) Remove(name string) error { return d.told(change{"remove", name, ""}) }
func (d *shaky) Sync() error              { return d.told(change{what: "sync"}) }

func (d *shaky) Read(name string) ([]byte, error) {
	d.calls++
	s, ok := d.now[name]
	if d.down {
		return nil, api.ErrDown
	}
	if !ok {
		return nil, fmt.Errorf("%s: %w", name, api.ErrNone)
	}
	return []byte(s), nil
}

func (d *shaky) Names() ([]string, error) {
	d.calls++
	if d.down {
		return nil, api.ErrDown
	}
	return slices.Sorted(maps.Keys(d.now)), nil
}

// outcomes: all that the files may be when the disk goes down now.
func (d *shaky) outcomes() []map[string]string {
	var all []map[string]string
	seen := map[string]bool{}
	var choose func(rest []change, files map[string]string, cut []string)
	choose = func(rest []change, files map[string]string, cut []string) {
		if len(rest) == 0 {
			if key := fmt.Sprintf("%q", files); !seen[key] {
				seen[key] = true
				all = append(all, files)
			}
			return
		}
		c, rest := rest[0], rest[1:]
		more := append(slices.Clone(cut), c.name)
		kept := func(c change, cut []string) {
			files := maps.Clone(files)
			c.apply(files)
			choose(rest, files, cut)
		}
		choose(rest, files, more)
		if c.what == "append" && slices.Contains(cut, c.name) {
			return
		}
		for n := range len(c.data) {
			kept(change{c.what, c.name, c.data[:n]}, more)
		}
		kept(c, cut)
	}
	choose(d.pending, maps.Clone(d.durable), nil)
	return all
}

// open: an engine over a disk on which there is no trouble.
func open(t *testing.T, d api.Disk) desk {
	t.Helper()
	e, err := flowkeeper.Open(d)
	if e == nil || err != nil {
		t.Fatalf("P23: Open = %v, %v", e, err)
	}
	return desk{t, e}
}

// afresh: an engine over an empty disk of its own, behind these calls.
func afresh(t *testing.T, calls []api.Command) desk {
	t.Helper()
	d := newDesk(t)
	for _, c := range calls {
		d.make(c)
	}
	return d
}

// snapshot is told as the other calls are, though no command is.
const snapshot = -1000

// make makes a call, and answers what it said; turned: it said that something turned, or was written anew.
func (d desk) make(c api.Command) (answer string, turned bool, err error) {
	var n uint64
	var x api.Task
	ok := true
	switch c.Op {
	case api.Submit:
		n, err = d.e.Submit([]byte(c.Data))
	case api.Poll:
		x, ok, err = d.e.Poll()
	case api.Beat:
		err = d.e.Beat(c.N)
	case api.Complete:
		err = d.e.Complete(c.N)
	case api.Fail:
		err = d.e.Fail(c.N)
	case api.Cancel:
		err = d.e.Cancel(c.N)
	case api.Tick:
		err = d.e.Tick(c.N)
	case api.Seed:
		err = d.e.Seed(c.N)
	case snapshot:
		err = d.e.Snapshot()
	}
	return fmt.Sprint(n, x, ok, err), ok && err == nil, err
}

// future is all that an engine says, and how it goes on: which tokens and ids come next, who is forgotten, what happens in which order.
func (d desk) future() string {
	s := d.all()
	say := func(c api.Command) {
		answer, _, _ := d.make(c)
		s += fmt.Sprintln(c.Op, c.N, answer, d.runs(), d.e.Timers(), d.e.Queue())
	}
	f := plainly(nil, []int{0})
	f.Nodes[0].Jitter = 1 << 20
	submit := submission(f)
	for _, n := range slices.Concat(d.runs(), []uint64{0}) {
		say(api.Command{Op: api.Poll})
		say(submit)
		say(submit)
		say(api.Command{Op: api.Tick, N: 2})
		say(api.Command{Op: api.Cancel, N: n})
	}
	for token := range uint64(40) {
		say(api.Command{Op: []int{api.Fail, api.Beat, api.Complete}[token%3], N: token})
	}
	for _, n := range []uint64{5, 50, 500, 5000} {
		say(api.Command{Op: api.Tick, N: n})
		say(api.Command{Op: api.Poll})
	}
	return s + d.all()
}

func submission(f api.Flow) api.Command {
	return api.Command{Op: api.Submit, Data: string(written(f))}
}
