package flowkeeper_test

import (
	"errors"
	"fmt"

	"flowkeeper/api"
	"flowkeeper/flowkeeper"
)

// What README.md shows.
func Example() {
	f := api.Flow{Deadline: 100, Nodes: []api.Node{
		{Budget: 2, Close: 9, Base: 3, Cap: 9},
		{Budget: 1, Close: 9, Base: 1, Cap: 1, After: []int{0}},
	}}
	b, err := flowkeeper.Encode(f)
	fmt.Printf("% x %v\n", b, err)
	g, err := flowkeeper.Decode(b)
	fmt.Println(same(f, g), err)
	fmt.Println(flowkeeper.Rest(f.Nodes[0], 2, 6), flowkeeper.Bound(f, 1))
	f.Nodes[0].After = []int{1}
	_, err = flowkeeper.Encode(f)
	fmt.Println(errors.Is(err, api.ErrCycle), err)
	// Output:
	// 64 02 02 09 00 03 09 00 00 01 09 00 01 01 00 01 00 <nil>
	// true <nil>
	// 6 49
	// true flowkeeper: error 4 at 0
}

// What README.md shows of wheels.
func ExampleWheel() {
	w := flowkeeper.NewWheel(0)
	fmt.Println(w.Set(1, 70), w.Set(2, 5), w.Set(3, 70))
	fmt.Println(w.Cancel(4) == api.ErrTimer)
	fmt.Println(w.Next())
	fmt.Println(w.Advance(69))
	fmt.Println(w.Advance(1))
	// Output:
	// <nil> <nil> <nil>
	// true
	// 5 true
	// [{2 5}]
	// [{1 70} {3 70}]
}
