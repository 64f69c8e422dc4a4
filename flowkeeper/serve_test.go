package flowkeeper_test

import (
	"fmt"
	"math"
	"math/rand/v2"
	"slices"
	"testing"

	"flowkeeper/api"
	"flowkeeper/flowkeeper"
)

// called: the answer to a command, by the call that it names.
func (d desk) called(c api.Command) (a api.Answer) {
	switch c.Op {
	case api.Submit:
		a.N, a.Err = d.e.Submit([]byte(c.Data))
	case api.Poll:
		a.Task, _, a.Err = d.e.Poll()
	case api.Beat:
		a.Err = d.e.Beat(c.N)
	case api.Complete:
		a.Err = d.e.Complete(c.N)
	case api.Fail:
		a.Err = d.e.Fail(c.N)
	case api.Cancel:
		a.Err = d.e.Cancel(c.N)
	case api.Tick:
		a.Err = d.e.Tick(c.N)
	case api.Seed:
		a.Err = d.e.Seed(c.N)
	case api.Query:
		a.Info, a.Err = d.e.Query(c.N)
	}
	return a
}

// served: the answers to commands that are sent over a channel with room for so many.
func (d desk) served(room int, l ...api.Command) (answers []api.Answer) {
	d.t.Helper()
	commands := make(chan api.Command, room)
	out := flowkeeper.Serve(d.e, commands)
	if out == nil {
		d.t.Fatal("P28: Serve answers no channel")
	}
	go func() {
		defer close(commands)
		for _, c := range l {
			commands <- c
		}
	}()
	for a := range out {
		answers = append(answers, a)
	}
	return answers
}

// text: an answer, to the last of it.
func text(a api.Answer) string {
	err := a.Err
	a.Err = nil
	return fmt.Sprintf("%T %[1]v %#v", err, a)
}

// answered: these are the answers.
func (d desk) answered(what string, got []api.Answer, want ...api.Answer) {
	d.t.Helper()
	if len(got) != len(want) {
		d.t.Fatalf("P28: %s: %d answers to %d commands", what, len(got), len(want))
	}
	for i := range got {
		if got, want := text(got[i]), text(want[i]); got != want {
			d.t.Fatalf("P28: %s: answer %d is %s, want %s", what, i, got, want)
		}
	}
}

// servedScript is a script for Serve: with commands that ask, and such as have no name.
func servedScript() []api.Command {
	var l []api.Command
	for i, c := range script() {
		if c.Op == snapshot {
			c.Op = -i
		}
		l = append(l, c, api.Command{Op: api.Query, N: uint64(i % 8)}, api.Command{Op: 10 + i, N: uint64(i)})
	}
	return append(l, api.Command{Op: api.Submit, Data: "x"}, api.Command{Op: api.Submit})
}

// P28: each command is its call, one behind the other, over channels with room and without.
func TestServe(t *testing.T) {
	l := servedScript()
	like := newDesk(t)
	var want []api.Answer
	for _, c := range l {
		want = append(want, like.called(c))
	}
	for _, room := range []int{0, 1, 2, 7, len(l), 2 * len(l)} {
		d := newDesk(t)
		d.answered(fmt.Sprint("room for ", room), d.served(room, l...), want...)
		if a, b := d.all(), like.all(); a != b {
			t.Fatalf("P28: then it is\n%s\nand should be\n%s", a, b)
		}
	}
}

// P28: a command whose name is none is nothing, and has an answer.
func TestServeOfNoName(t *testing.T) {
	var l []api.Command
	for _, op := range []int{0, 10, 11, 77, 100, 255, 256, 257, 258, 1<<8 + 7, 1<<16 + 8, 1<<32 + 2, 1<<32 + 7, -1, -2, -7, -8, -256, math.MinInt, math.MinInt + 2, math.MaxInt} {
		l = append(l, api.Command{Op: op, N: 1, Data: string(written(row(1)))})
	}
	disk := newShaky(nil)
	d := open(t, disk)
	d.submit(plainly(nil, nil))
	d.poll("{1 0 1 1}")
	was, asked := d.all(), disk.calls
	d.answered("no names", d.served(0, l...), make([]api.Answer, len(l))...)
	if s := d.all(); s != was || disk.calls != asked {
		t.Errorf("P28: commands of no name turned\n%s\nto\n%s\nand asked the disk %d times", was, s, disk.calls-asked)
	}
}

// P28: what a command does not name is not looked at.
func TestServeLooksAtWhatIsNamed(t *testing.T) {
	data := string(written(plainly(nil)))
	for _, more := range []api.Command{{}, {N: 1}, {N: 3}, {N: math.MaxUint64}, {Data: data}, {Data: "x"}, {N: 2, Data: data}} {
		d, like := newDesk(t), newDesk(t)
		for i, c := range script() {
			if c.Op == snapshot {
				continue
			}
			want := like.called(c)
			switch c.Op {
			case api.Poll:
				c.N, c.Data = more.N, more.Data
			case api.Submit:
				c.N = more.N
			default:
				c.Data = more.Data
			}
			d.answered(fmt.Sprintf("command %d, %+v", i, c), d.served(0, c), want)
			if a, b := d.all(), like.all(); a != b {
				t.Fatalf("P28: command %d, %+v: it is\n%s\nand should be\n%s", i, c, a, b)
			}
		}
		d.answered("a query", d.served(0, api.Command{Op: api.Query, N: 8, Data: more.Data}), like.called(api.Command{Op: api.Query, N: 8}))
	}
}

// P28: Serve answers ahead of any command; a command is done when it comes, though no other does; the channel is open until no more come.
func TestServeDoesNotWait(t *testing.T) {
	d := newDesk(t)
	commands := make(chan api.Command)
	out := flowkeeper.Serve(d.e, commands)
	for i := range 20 {
		select {
		case a, more := <-out:
			t.Fatalf("P28: an answer to nothing: %v, %v", a, more)
		default:
		}
		commands <- api.Command{Op: api.Submit, Data: string(written(row(1)))}
		a, more := <-out
		want := api.Answer{N: uint64(i + 1)}
		if i >= 6 {
			want = api.Answer{Err: api.ErrMany}
		}
		if !more {
			t.Fatalf("P28: there is no answer to command %d", i)
		}
		d.answered("one by one", []api.Answer{a}, want)
	}
	close(commands)
	if a, more := <-out; more {
		t.Fatalf("P28: an answer to nothing: %v", a)
	}
}

// P28: when no command comes at all, there is no answer, and the channel is closed.
func TestServeOfNothing(t *testing.T) {
	d := newDesk(t)
	d.submit(row(1))
	was := d.all()
	for room := range 3 {
		d.answered("nothing", d.served(room))
	}
	closed := make(chan api.Command, 3)
	close(closed)
	for _, commands := range []<-chan api.Command{closed, nil} {
		if a, more := <-flowkeeper.Serve(d.e, commands); more {
			t.Errorf("P28: an answer to nothing: %v", a)
		}
	}
	if s := d.all(); s != was {
		t.Errorf("P28: it turned\n%s\nto\n%s", was, s)
	}
}

// P28: commands that wait in the room of their channel are done, though no more come.
func TestServeOfWhatWaits(t *testing.T) {
	d := newDesk(t)
	commands := make(chan api.Command, 5)
	for i := range uint64(5) {
		commands <- api.Command{Op: api.Seed, N: i}
	}
	close(commands)
	n := 0
	for range flowkeeper.Serve(d.e, commands) {
		n++
	}
	if _, seed := d.e.Clock(); n != 5 || seed != 4 {
		t.Errorf("P28: %d answers, and the seed is %d", n, seed)
	}
}

// P28: behind the last answer the engine is anybody's: it is called, written, served again, and opened anew, time after time.
func TestServedAgain(t *testing.T) {
	for round := range uint64(40) {
		r := rand.New(rand.NewPCG(round, 83))
		disk := newShaky(nil)
		d, like := open(t, disk), newDesk(t)
		for range 20 {
			var l []api.Command
			var want []api.Answer
			for range r.IntN(9) {
				c := anyCommand(r, 20)
				l = append(l, c)
				want = append(want, like.called(c))
			}
			d.answered("served again", d.served(r.IntN(4), l...), want...)
			if a, b := d.all(), like.all(); a != b {
				t.Fatalf("P28: it is\n%s\nand should be\n%s", a, b)
			}
			d.well(d.e.Tick(1), like.e.Tick(1), d.e.Snapshot())
			if r.IntN(3) == 0 {
				disk.fall(disk.durable)
				d = open(t, disk)
			}
		}
		for n := range d.e.Runs() {
			d.answered("a query", d.served(0, api.Command{Op: api.Query, N: n}), like.called(api.Command{Op: api.Query, N: n}))
		}
	}
}

// P28: several engines are served at once, and each knows nothing of the others.
func TestServedAtOnce(t *testing.T) {
	var in []chan api.Command
	var out []<-chan api.Answer
	var desks []desk
	for range 5 {
		d := newDesk(t)
		commands := make(chan api.Command)
		desks, in, out = append(desks, d), append(in, commands), append(out, flowkeeper.Serve(d.e, commands))
	}
	for i := range uint64(50) {
		for k := range in {
			in[k] <- api.Command{Op: api.Tick, N: i * uint64(k)}
		}
		for k := range in {
			<-out[k]
		}
	}
	for k, d := range desks {
		close(in[k])
		if a, more := <-out[k]; more {
			t.Errorf("P28: an answer to nothing: %v", a)
		}
		if now, _ := d.e.Clock(); now != uint64(49*50/2*k) {
			t.Errorf("P28: engine %d is at %d", k, now)
		}
	}
}

// P2, P28: the lists of an answer are new.
func TestListsOfAnswers(t *testing.T) {
	d := newDesk(t)
	d.submit(plainly(nil, nil, []int{0}))
	was := d.all()
	ask := api.Command{Op: api.Query, N: 1}
	l := d.served(0, ask, ask)
	for _, list := range [][]int{l[0].Info.Nodes, l[0].Info.Tries} {
		for i := range list[:cap(list)] {
			list[:cap(list)][i] = 77
		}
	}
	if s := fmt.Sprint(l[1].Info); s != "{1 1 [2 2 1] [0 0 0]}" || d.all() != was {
		t.Errorf("P2: one list hangs on another: %s,\n%s\nand was\n%s", s, d.all(), was)
	}
}

// P24, P28: an error of the disk is the answer, then and later; what asks is answered as ever.
func TestServeOverBadDisk(t *testing.T) {
	data := string(written(plainly(nil, nil)))
	for _, x := range []trouble{goesDown, isFull, smokes, halves} {
		disk := newShaky(nil)
		d := open(t, disk)
		d.answered("well", d.served(0, api.Command{Op: api.Submit, Data: data}, api.Command{Op: api.Poll}), api.Answer{N: 1}, api.Answer{Task: api.Task{Run: 1, Try: 1, Token: 1}})
		disk.expect(0, x)
		bad := api.Answer{Err: x.says()}
		var l []api.Command
		var want []api.Answer
		for _, op := range []int{api.Poll, api.Submit, api.Beat, api.Complete, api.Fail, api.Cancel, api.Tick, api.Seed} {
			l = append(l, api.Command{Op: op, N: 1, Data: data})
			want = append(want, bad)
		}
		l = append(l, api.Command{Op: api.Query, N: 1}, api.Command{Op: api.Fail, N: 2}, api.Command{Op: 12}, api.Command{Op: api.Submit})
		want = append(want, api.Answer{Info: api.Info{Run: 1, State: 1, Nodes: []int{3, 2}, Tries: []int{1, 0}}}, api.Answer{Err: api.ErrToken}, api.Answer{})
		got := d.served(1, l...)
		if s := told(t, got[len(got)-1].Err); s != said(api.ErrFlow, 0) {
			t.Errorf("P28: Submit of nothing: %s", s)
		}
		d.answered("a bad disk", got[:len(got)-1], want...)
	}
}

// P1, P28: engines that Open did not make are served, too.
func TestServeOfNobody(t *testing.T) {
	for _, e := range []*flowkeeper.Engine{nil, {}} {
		d := desk{t, e}
		l := []api.Command{{Op: api.Tick, N: 1}, {Op: api.Poll}, {Op: api.Query, N: 1}, {Op: api.Beat}, {Op: 99}, {Op: api.Submit, Data: string(written(row(1)))}}
		d.answered("nobody", d.served(0, l...), api.Answer{Err: api.ErrDown}, api.Answer{}, api.Answer{Err: api.ErrRun}, api.Answer{Err: api.ErrToken}, api.Answer{}, api.Answer{Err: api.ErrDown})
	}
}

// P23, P28: what was answered is durable.
func TestServedIsDurable(t *testing.T) {
	var l []api.Command
	for _, c := range script() {
		if c.Op != snapshot {
			l = append(l, c)
		}
	}
	for i := range l {
		d := newShaky(nil)
		open(t, d).served(i%3, l[:i]...)
		open(t, newShaky(d.durable)).isOne(state{all: afresh(t, l[:i]).all()})
	}
	d := newShaky(nil)
	e := open(t, d)
	commands := make(chan api.Command)
	out := flowkeeper.Serve(e.e, commands)
	for i, c := range l {
		commands <- c
		<-out
		open(t, newShaky(d.durable)).isOne(state{all: afresh(t, l[:i+1]).all()})
	}
	close(commands)
	<-out
	over(t, d, stateOf(t, slices.Clone(l)))
}
