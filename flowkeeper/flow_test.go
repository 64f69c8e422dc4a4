package flowkeeper_test

import (
	"encoding/binary"
	"encoding/hex"
	"errors"
	"fmt"
	"math/rand/v2"
	"testing"

	"flowkeeper/api"
	"flowkeeper/flowkeeper"
	"flowkeeper/plain"
)

const span = api.MaxSpan

// said is what a call says of a flow, in one word.
func said(e api.Errno, at int) string {
	if e == api.OK {
		return "well"
	}
	return fmt.Sprintf("%d at %d", e, at)
}

// told is the same of an error as it is handed out.
func told(t *testing.T, err error) string {
	t.Helper()
	e, at := plain.Told(err)
	var f *api.Fault
	if err != nil && !errors.As(err, &f) {
		t.Errorf("%v is no *api.Fault", err)
	}
	if e == -1 {
		t.Errorf("%v is no error of package api", err)
	}
	return said(e, at)
}

// row: so many nodes, each as plain as can be, that wait for nothing.
func row(nodes int) api.Flow {
	f := api.Flow{Deadline: 1}
	for range nodes {
		f.Nodes = append(f.Nodes, api.Node{Budget: 1, Close: 1, Base: 1, Cap: 1})
	}
	return f
}

// waits: a node for each list, which is what it waits for.
func waits(after ...[]int) api.Flow {
	f := row(len(after))
	for i, l := range after {
		f.Nodes[i].After = l
	}
	return f
}

// written: the bytes of a flow, in its bounds or not (each number from 0 on), written another way than the program does.
func written(f api.Flow) []byte {
	l := []int{f.Deadline, len(f.Nodes)}
	for _, n := range f.Nodes {
		l = append(l, n.Budget, n.Close, n.Beat, n.Base, n.Cap, n.Jitter, len(n.After))
		l = append(l, n.After...)
	}
	var b []byte
	for _, n := range l {
		b = binary.AppendUvarint(b, uint64(n))
	}
	return b
}

// wanted: what P4 says of a flow, found another way than the program does.
func wanted(f api.Flow) string {
	if f.Deadline < 1 || f.Deadline > span || len(f.Nodes) < 1 || len(f.Nodes) > 12 {
		return said(api.ErrBound, -1)
	}
	var by [12][12]bool // does one wait for the other, by whatever others?
	for i, n := range f.Nodes {
		for _, x := range [][3]int{{n.Budget, 1, 5}, {n.Close, 1, span}, {n.Beat, 0, span}, {n.Base, 1, span}, {n.Cap, n.Base, span}, {n.Jitter, 0, span}} {
			if x[0] < x[1] || x[0] > x[2] {
				return said(api.ErrBound, i)
			}
		}
		for k, a := range n.After {
			if a < 0 || a >= len(f.Nodes) || k > 0 && a <= n.After[k-1] {
				return said(api.ErrEdge, i)
			}
			by[i][a] = true
		}
	}
	for m := range by {
		for i := range by {
			for k := range by {
				by[i][k] = by[i][k] || by[i][m] && by[m][k]
			}
		}
	}
	for i := range by {
		for k := range by {
			if by[k][k] && (i == k || by[i][k]) {
				return said(api.ErrCycle, i)
			}
		}
	}
	return said(api.OK, -1)
}

// wantedOf: what P5 says of bytes, and the flow, found another way than the program does.
func wantedOf(b []byte) (api.Flow, string) {
	at, bad := 0, -1
	next := func() int {
		if bad >= 0 {
			return 0
		}
		n, size := binary.Uvarint(b[at:])
		if size < 1 || size > 3 || len(binary.AppendUvarint(nil, n)) != size {
			bad = at
			return 0
		}
		at += size
		return int(n)
	}
	f := api.Flow{Deadline: next()}
	for n := next(); n > 0 && bad < 0; n-- {
		x := api.Node{Budget: next(), Close: next(), Beat: next(), Base: next(), Cap: next(), Jitter: next()}
		for m := next(); m > 0 && bad < 0; m-- {
			x.After = append(x.After, next())
		}
		f.Nodes = append(f.Nodes, x)
	}
	if bad < 0 && at < len(b) {
		bad = at
	}
	if bad >= 0 {
		return api.Flow{}, said(api.ErrFlow, bad)
	}
	if w := wanted(f); w != said(api.OK, -1) {
		return api.Flow{}, w
	}
	return f, said(api.OK, -1)
}

// same: to the last list, which is nil or is not.
func same(f, g api.Flow) bool { return fmt.Sprintf("%#v", f) == fmt.Sprintf("%#v", g) }

func some(r *rand.Rand, least, most int) int { return least + r.IntN(most-least+1) }

// spanOf: any span, the short ones and the bounds of each length in bytes more often.
func spanOf(r *rand.Rand, least int) int {
	l := []int{least, least + 1, 127, 128, 16383, 16384, span - 1, span, some(r, least, span), some(r, least, 300+least)}
	return min(max(l[r.IntN(len(l))], least), span)
}

// anyFlow: a flow that is well.
func anyFlow(r *rand.Rand) api.Flow {
	f := row(some(r, 1, api.MaxNodes))
	f.Deadline = spanOf(r, 1)
	order := r.Perm(len(f.Nodes))
	for i := range f.Nodes {
		base := spanOf(r, 1)
		f.Nodes[i] = api.Node{Budget: some(r, 1, 5), Close: spanOf(r, 1), Beat: spanOf(r, 0), Base: base, Cap: spanOf(r, base), Jitter: spanOf(r, 0)}
		for k := range f.Nodes {
			if order[k] < order[i] && r.IntN(3) == 0 {
				f.Nodes[i].After = append(f.Nodes[i].After, k)
			}
		}
	}
	return f
}

// spoil writes something into a flow that may be wrong with it.
func spoil(r *rand.Rand, f *api.Flow) {
	odd := []int{-1 << 63, -1, 0, 1, 2, 5, 6, 11, 12, span, span + 1, 1<<63 - 1}
	v := odd[r.IntN(len(odd))]
	n := &f.Nodes[r.IntN(len(f.Nodes))]
	switch r.IntN(10) {
	case 0:
		f.Deadline = v
	case 1:
		n.Budget = v
	case 2:
		n.Close = v
	case 3:
		n.Beat = v
	case 4:
		n.Base = v
	case 5:
		n.Cap = v
	case 6:
		n.Jitter = v
	case 7:
		n.After = append(n.After, v)
	default:
		n.After = []int{r.IntN(len(f.Nodes))}
	}
}

// P3, P4, P5: flows and their bytes, each as it is to be, and as another way finds it.
func TestFlowsOfAllKinds(t *testing.T) {
	r := rand.New(rand.NewPCG(3, 5))
	seen := map[string]int{}
	for range 20000 {
		f := anyFlow(r)
		for range r.IntN(3) {
			spoil(r, &f)
		}
		w := wanted(f)
		seen[w]++
		b, err := flowkeeper.Encode(f)
		if told(t, err) != w {
			t.Fatalf("P4: Encode(%+v): %v, want %s", f, err, w)
		}
		if err != nil {
			if b != nil {
				t.Fatalf("P1: Encode(%+v): %v, and bytes", f, err)
			}
			continue
		}
		if string(b) != string(written(f)) {
			t.Fatalf("P3: Encode(%+v) = %x, want %x", f, b, written(f))
		}
		if g, err := flowkeeper.Decode(b); err != nil || !same(f, g) {
			t.Fatalf("P5: Decode(%x) = %+v, %v, want %+v", b, g, err, f)
		}
	}
	if len(seen) < 30 {
		t.Errorf("only %d answers were seen", len(seen))
	}
}

// P5, P1: bytes that are no flow any more.
func TestBytesOfAllKinds(t *testing.T) {
	r := rand.New(rand.NewPCG(7, 9))
	for range 20000 {
		b := written(anyFlow(r))
		for range some(r, 1, 3) {
			i := r.IntN(len(b))
			switch r.IntN(5) {
			case 0:
				b = b[:i+1]
			case 1:
				b = append(b, byte(r.IntN(3)))
			case 2:
				b[i] ^= 0x80
			case 3:
				b = append(b[:i+1], b[i:]...)
			default:
				b[i] = byte(r.Uint32())
			}
		}
		checkDecode(t, b)
	}
}

func checkDecode(t *testing.T, b []byte) {
	t.Helper()
	want, w := wantedOf(b)
	f, err := flowkeeper.Decode(b)
	if told(t, err) != w || !same(f, want) {
		t.Fatalf("P5: Decode(%x) = %+v, %v, want %+v, %s", b, f, err, want, w)
	}
	if err != nil {
		return
	}
	if again, err := flowkeeper.Encode(f); err != nil || string(again) != string(b) {
		t.Fatalf("P3: Encode(%+v) = %x, %v, want %x", f, again, err, b)
	}
}

func FuzzDecode(f *testing.F) {
	for _, s := range []string{"", "6402020900030900000109000101000100", "010101010001010001", "ffff7fffff7f"} {
		b, _ := hex.DecodeString(s)
		f.Add(b)
	}
	f.Fuzz(checkDecode)
}
