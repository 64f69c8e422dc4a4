// Package flows: flows as bytes, what is wrong with a flow, and how long its nodes rest and its runs take.
package flows

import (
	"flowkeeper/api"
	"flowkeeper/numbers"
)

// NumbersOf: where a node's numbers stand, in the order in which they are written and read.
func NumbersOf(n *api.Node) [6]*int {
	return [6]*int{&n.Budget, &n.Close, &n.Beat, &n.Base, &n.Cap, &n.Jitter}
}

// Encode: the bytes of a flow (P3, P4).
func Encode(f api.Flow) ([]byte, error) {
	if err := Check(f); err != nil {
		return nil, err
	}
	b := numbers.Append(nil, f.Deadline, len(f.Nodes))
	for _, n := range f.Nodes {
		for _, p := range NumbersOf(&n) {
			b = numbers.Append(b, *p)
		}
		b = numbers.Append(b, len(n.After))
		b = numbers.Append(b, n.After...)
	}
	return b, nil
}

// Decode: the flow of bytes (P5).
func Decode(b []byte) (api.Flow, error) {
	f, err := read(b)
	if err == nil {
		err = Check(f)
	}
	if err != nil {
		return api.Flow{}, err
	}
	return f, nil
}

// read: the flow that the bytes are, in its bounds or not. With an error comes what was read ahead of it.
func read(b []byte) (f api.Flow, err error) {
	r := &reader{b: b}
	defer func() {
		switch thrown := recover().(type) {
		case nil:
		case badAt:
			err = fault(api.ErrFlow, int(thrown))
		default: // none is known; but no call panics (P1), and what was not read to its end is no flow
			err = fault(api.ErrFlow, r.at)
		}
	}()
	f.Deadline = r.number()
	f.Nodes = list(r, func() api.Node {
		var n api.Node
		for _, p := range NumbersOf(&n) {
			*p = r.number()
		}
		n.After = list(r, r.number)
		return n
	})
	r.end()
	return f, nil
}
