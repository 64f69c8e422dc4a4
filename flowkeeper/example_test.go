package flowkeeper_test

import (
	"errors"
	"fmt"

	"flowkeeper/api"
	"flowkeeper/flowkeeper"
)

// What README.md shows.
func Example() {
	f := api.Flow{Deadline: 100, Nodes: []api.Node{
		{Budget: 2, Close: 9, Base: 3, Cap: 9},
		{Budget: 1, Close: 9, Base: 1, Cap: 1, After: []int{0}},
	}}
	b, err := flowkeeper.Encode(f)
	fmt.Printf("% x %v\n", b, err)
	g, err := flowkeeper.Decode(b)
	fmt.Println(same(f, g), err)
	fmt.Println(flowkeeper.Rest(f.Nodes[0], 2, 6), flowkeeper.Bound(f, 1))
	f.Nodes[0].After = []int{1}
	_, err = flowkeeper.Encode(f)
	fmt.Println(errors.Is(err, api.ErrCycle), err)
	// Output:
	// 64 02 02 09 00 03 09 00 00 01 09 00 01 01 00 01 00 <nil>
	// true <nil>
	// 6 49
	// true flowkeeper: error 4 at 0
}

// What README.md shows of wheels.
func ExampleWheel() {
	w := flowkeeper.NewWheel(0)
	fmt.Println(w.Set(1, 70), w.Set(2, 5), w.Set(3, 70))
	fmt.Println(w.Cancel(4) == api.ErrTimer)
	fmt.Println(w.Next())
	fmt.Println(w.Advance(69))
	fmt.Println(w.Advance(1))
	// Output:
	// <nil> <nil> <nil>
	// true
	// 5 true
	// [{2 5}]
	// [{1 70} {3 70}]
}

// What README.md shows of engines.
func ExampleEngine() {
	b, _ := flowkeeper.Encode(api.Flow{Deadline: 100, Nodes: []api.Node{
		{Budget: 2, Close: 9, Base: 3, Cap: 9},
		{Budget: 1, Close: 9, Base: 1, Cap: 1, After: []int{0}},
	}})
	d := newShaky(nil)
	e, err := flowkeeper.Open(d)
	fmt.Println(e != nil, err)
	run, err := e.Submit(b)
	fmt.Println(run, err)
	task, ok, err := e.Poll()
	fmt.Println(task, ok, err)
	fmt.Println(e.Beat(task.Token), e.Fail(task.Token))
	fmt.Println(e.Timers())
	fmt.Println(e.Tick(3))
	task, ok, err = e.Poll()
	fmt.Println(task, ok, err)
	fmt.Println(e.Complete(task.Token))
	fmt.Println(e.Queue())
	fmt.Println(e.Query(run))
	fmt.Println(e.Cancel(run))
	for run := range e.Runs() {
		fmt.Println(e.Query(run))
	}
	fmt.Println(e.Seed(6))
	fmt.Println(e.Clock())
	d.fall(d.durable)
	e, err = flowkeeper.Open(d)
	fmt.Println(e != nil, err)
	fmt.Println(e.Query(run))
	fmt.Println(e.Snapshot(), len(d.durable), size(d.durable) < 4000)
	d.expect(0, isFull)
	fmt.Println(e.Tick(1) == api.ErrFull, e.Seed(7) == api.ErrFull)
	fmt.Println(e.Clock())
	// Output:
	// true <nil>
	// 1 <nil>
	// {1 0 1 1} true <nil>
	// <nil> <nil>
	// [{1 0 3} {1 -1 100}]
	// <nil>
	// {1 0 2 2} true <nil>
	// <nil>
	// [{1 1 1 0}]
	// {1 1 [5 2] [2 0]} <nil>
	// <nil>
	// {1 4 [5 7] [2 0]} <nil>
	// <nil>
	// 3 6
	// true <nil>
	// {1 4 [5 7] [2 0]} <nil>
	// <nil> 1 true
	// true true
	// 3 6
}

// What README.md shows of Serve.
func ExampleServe() {
	b, _ := flowkeeper.Encode(api.Flow{Deadline: 100, Nodes: []api.Node{
		{Budget: 2, Close: 9, Base: 3, Cap: 9},
		{Budget: 1, Close: 9, Base: 1, Cap: 1, After: []int{0}},
	}})
	e, _ := flowkeeper.Open(newShaky(nil))
	_, _ = e.Submit(b)
	task, _, _ := e.Poll()
	_, _, _ = e.Fail(task.Token), e.Tick(3), e.Seed(6)
	_, _, _ = e.Poll()
	_ = e.Cancel(1)
	commands := make(chan api.Command)
	answers := flowkeeper.Serve(e, commands)
	commands <- api.Command{Op: api.Submit, Data: string(b)}
	a := <-answers
	fmt.Println(a.Err, a.N)
	commands <- api.Command{Op: api.Poll}
	a = <-answers
	fmt.Println(a.Task)
	commands <- api.Command{Op: api.Query, N: 2}
	a = <-answers
	fmt.Println(a.Info)
	close(commands)
	_, more := <-answers
	fmt.Println(more)
	// Output:
	// <nil> 2
	// {2 0 1 3}
	// {2 1 [3 1] [1 0]}
	// false
}
