package flowkeeper_test

import (
	"bytes"
	"encoding/hex"
	"testing"

	"flowkeeper/api"
	"flowkeeper/flowkeeper"
	"flowkeeper/plain"
)

func unhex(t *testing.T, s string) []byte {
	t.Helper()
	b, err := hex.DecodeString(s)
	if err != nil {
		t.Fatal(err)
	}
	return b
}

// P3: each number in as few bytes as can be, the lowest bits first.
func TestNumbersAsBytes(t *testing.T) {
	for _, c := range []struct {
		n    int
		want string
	}{
		{1, "01"}, {2, "02"}, {100, "64"}, {127, "7f"}, {128, "8001"}, {129, "8101"}, {300, "ac02"}, {16383, "ff7f"},
		{16384, "808001"}, {16385, "818001"}, {1<<20 - 1, "ffff3f"}, {1 << 20, "808040"},
	} {
		f := row(1)
		f.Deadline = c.n
		b, err := flowkeeper.Encode(f)
		want := c.want + "01" + "0101000101" + "00" + "00"
		if hex.EncodeToString(b) != want || err != nil {
			t.Errorf("P3: a Deadline of %d: %x, %v, want %s", c.n, b, err, want)
		}
		if g, err := flowkeeper.Decode(unhex(t, want)); g.Deadline != c.n || err != nil {
			t.Errorf("P5: Decode(%s): a Deadline of %d, %v, want %d", want, g.Deadline, err, c.n)
		}
	}
}

// P3: the numbers of a flow in their order.
func TestOrderOfNumbers(t *testing.T) {
	f := api.Flow{Deadline: 99, Nodes: []api.Node{
		{Budget: 2, Close: 3, Beat: 4, Base: 5, Cap: 6, Jitter: 7, After: []int{1, 2}},
		{Budget: 1, Close: 200, Beat: 0, Base: 8, Cap: 9, Jitter: 10},
		{Budget: 5, Close: 11, Beat: 12, Base: 13, Cap: 14, Jitter: 15, After: []int{1}},
	}}
	want := "63" + "03" +
		"020304050607" + "020102" +
		"01c8010008090a" + "00" +
		"050b0c0d0e0f" + "0101"
	b, err := flowkeeper.Encode(f)
	if hex.EncodeToString(b) != want || err != nil {
		t.Errorf("P3: Encode = %x, %v, want %s", b, err, want)
	}
	g, err := flowkeeper.Decode(unhex(t, want))
	if !same(f, g) || err != nil {
		t.Errorf("P5: Decode = %+v, %v, want %+v", g, err, f)
	}
}

// The first of the document's examples.
func TestExampleOfBytes(t *testing.T) {
	f := api.Flow{Deadline: 100, Nodes: []api.Node{
		{Budget: 2, Close: 9, Base: 3, Cap: 9},
		{Budget: 1, Close: 9, Base: 1, Cap: 1, After: []int{0}},
	}}
	b, err := flowkeeper.Encode(f)
	if hex.EncodeToString(b) != "6402020900030900000109000101000100" || err != nil {
		t.Errorf("P3: Encode = %x, %v", b, err)
	}
	if g, err := flowkeeper.Decode(b); !same(f, g) || err != nil {
		t.Errorf("P5: Decode = %+v, %v", g, err)
	}
}

// full: a flow of which every number has three bytes where it may: 12 nodes, the last waits for all others.
func full() api.Flow {
	f := row(api.MaxNodes)
	f.Deadline = span
	for i := range f.Nodes {
		f.Nodes[i] = api.Node{Budget: 5, Close: span, Beat: 1 << 14, Base: 1 << 14, Cap: span, Jitter: span - i}
	}
	f.Nodes[11].After = []int{0, 1, 2, 3, 4, 5, 6, 7, 8, 9, 10}
	return f
}

// starts: where each number of a flow's bytes begins, and where the last one ends.
func starts(b []byte) []int {
	l := []int{0}
	for i, c := range b {
		if c < 0x80 {
			l = append(l, i+1)
		}
	}
	return l
}

// P5: cut off anywhere: at the first byte of the number that is cut off, or would be the next.
func TestBytesCutOff(t *testing.T) {
	b := written(full())
	at := starts(b)
	for i := range at[:len(at)-1] {
		for n := at[i]; n < at[i+1]; n++ {
			f, err := flowkeeper.Decode(b[:n])
			if told(t, err) != said(api.ErrFlow, at[i]) || !same(f, api.Flow{}) {
				t.Errorf("P5: %d bytes of %x: %+v, %v, want %s", n, b, f, err, said(api.ErrFlow, at[i]))
			}
		}
	}
	if f, err := flowkeeper.Decode(b); err != nil || !same(f, full()) {
		t.Errorf("P5: Decode(%x) = %+v, %v", b, f, err)
	}
	for _, none := range [][]byte{nil, {}} {
		if _, err := flowkeeper.Decode(none); told(t, err) != said(api.ErrFlow, 0) {
			t.Errorf("P5: no bytes: %v", err)
		}
	}
}

// P5: any number longer than need be, or of more than three bytes: at its first byte.
func TestNumbersTooLong(t *testing.T) {
	b := written(full())
	at := starts(b)
	for i := range at[:len(at)-1] {
		from, to := at[i], at[i+1]
		number := b[from:to]
		longer := append(bytes.Clone(number), 0) // the same number, in a byte more
		longer[len(number)-1] |= 0x80
		wrong := [][]byte{longer, {0x80, 0}, {0x80, 0x80, 0}, {0x81, 0}, {0xff, 0x80, 0}, {0x80, 0x80, 0x80, 0}, {0x80, 0x80, 0x80, 1}, {0xff, 0xff, 0xff, 0x7f}, {0x80, 0x80, 0x80, 0x80, 0x80, 0x80, 0x80, 0x80, 0x80, 1}}
		for _, w := range wrong {
			x := append(append(bytes.Clone(b[:from]), w...), b[to:]...)
			f, err := flowkeeper.Decode(x)
			if told(t, err) != said(api.ErrFlow, from) || !same(f, api.Flow{}) {
				t.Errorf("P5: number %d is %x: %+v, %v, want %s", i, w, f, err, said(api.ErrFlow, from))
			}
		}
	}
}

// P5: 0 is one byte, and three bytes hold up to 2^21 - 1: these are numbers, though out of a flow's bounds.
func TestNumbersThatAreRead(t *testing.T) {
	for _, c := range []struct {
		bytes, want string
	}{
		{"00" + "01" + "010100010100" + "00", "2 at -1"},
		{"ffff7f" + "01" + "010100010100" + "00", "2 at -1"},
		{"818040" + "01" + "010100010100" + "00", "2 at -1"},
		{"808040" + "01" + "010100010100" + "00", "well"},
		{"01" + "01" + "01ffff7f00010100" + "00", "2 at 0"},
		{"01" + "01" + "010100010100" + "01ffff7f", "3 at 0"},
	} {
		if _, err := flowkeeper.Decode(unhex(t, c.bytes)); told(t, err) != c.want {
			t.Errorf("P5: Decode(%s): %v, want %s", c.bytes, err, c.want)
		}
	}
}

// P5: how many there are counts as it is read: so many are looked for, whatever the bounds say.
func TestCountsAsRead(t *testing.T) {
	thirteen := written(row(13))
	for _, c := range []struct {
		what string
		b    []byte
		want string
	}{
		{"13 nodes", thirteen, "2 at -1"},
		{"13 nodes, one cut off", thirteen[:len(thirteen)-1], said(api.ErrFlow, len(thirteen)-1)},
		{"13 nodes and a byte", append(bytes.Clone(thirteen), 0), said(api.ErrFlow, len(thirteen))},
		{"13 nodes are told, there are 12", append([]byte{1, 13}, written(row(12))[2:]...), said(api.ErrFlow, 86)},
		{"12 nodes are told, there are 13", append([]byte{1, 12}, thirteen[2:]...), said(api.ErrFlow, 86)},
		{"no nodes", unhex(t, "0100"), "2 at -1"},
		{"no nodes are told, there is one", unhex(t, "0100"+"01010001010000"), said(api.ErrFlow, 2)},
		{"as many nodes as can be told", unhex(t, "01ffff7f"), said(api.ErrFlow, 4)},
		{"as many to wait for as can be told", unhex(t, "0101"+"010100010100"+"ffff7f0000"), said(api.ErrFlow, 13)},
		{"waits for more than there are nodes", unhex(t, "0101"+"010100010100"+"020000"), "3 at 0"},
		{"waits for less than are there", unhex(t, "0102"+"010100010100"+"00"+"010100010100"+"000000"), said(api.ErrFlow, 16)},
	} {
		f, err := flowkeeper.Decode(c.b)
		if told(t, err) != c.want || !same(f, api.Flow{}) {
			t.Errorf("P5: %s: %+v, %v, want %s", c.what, f, err, c.want)
		}
	}
}

// P5: what is wrong with the bytes is told ahead of what is wrong with the flow.
func TestBytesAheadOfFlow(t *testing.T) {
	for _, c := range []struct {
		bytes, want string
	}{
		{"00" + "01" + "060000000000" + "00" + "00", "1 at 9"},            // Deadline, Budget; a byte more
		{"00" + "01" + "060000000000" + "8000", "1 at 8"},                 // a count that is too long
		{"01" + "01" + "010100010100" + "0100" + "00", "1 at 10"},         // a circle; a byte more
		{"01" + "01" + "010100010100" + "0105" + "8000", "1 at 10"},       // an edge to nowhere; bytes more
		{"01" + "02" + "010100010100" + "0101" + "0101000101", "1 at 15"}, // cut off
		{"8000" + "8000", "1 at 0"},                                       // the first of two
		{"01" + "01" + "060000000000" + "00", "2 at 0"},
	} {
		if _, err := flowkeeper.Decode(unhex(t, c.bytes)); told(t, err) != c.want {
			t.Errorf("P5: Decode(%s): %v, want %s", c.bytes, err, c.want)
		}
	}
}

// P1: a great many bytes end too.
func TestManyBytes(t *testing.T) {
	t.Parallel()
	nodes := append([]byte{1, 0xff, 0xff, 0x7f}, bytes.Repeat([]byte{1, 1, 0, 1, 1, 0, 0}, 1<<21-1)...)
	if _, err := flowkeeper.Decode(nodes); told(t, err) != "2 at -1" {
		t.Errorf("P5: 2^21 - 1 nodes: %v", err)
	}
	after := append([]byte{1, 1, 1, 1, 0, 1, 1, 0, 0xff, 0xff, 0x7f}, make([]byte, 1<<21-1)...)
	if _, err := flowkeeper.Decode(after); told(t, err) != "3 at 0" {
		t.Errorf("P5: a node that waits for 2^21 - 1: %v", err)
	}
	if _, err := flowkeeper.Decode(after[:len(after)-1]); told(t, err) != said(api.ErrFlow, len(after)-1) {
		t.Errorf("P5: the same, cut off: %v", err)
	}
	if _, err := flowkeeper.Decode(bytes.Repeat([]byte{0xff}, 1<<20)); told(t, err) != "1 at 0" {
		t.Errorf("P5: a number of 2^20 bytes: %v", err)
	}
}

// P2: what comes out hangs on nothing that was handed in, and no list of it on another.
func TestWhatComesOutIsNew(t *testing.T) {
	b := written(full())
	own := bytes.Clone(b)
	f, err := flowkeeper.Decode(own)
	if err != nil || !bytes.Equal(own, b) {
		t.Fatalf("P2: Decode wrote into its bytes, or %v", err)
	}
	clear(own)
	if !same(f, full()) {
		t.Errorf("P2: the flow hangs on its bytes: %+v", f)
	}
	g, _ := flowkeeper.Decode(b)
	for i := range g.Nodes {
		l := g.Nodes[i].After
		for k := range l[:cap(l)] {
			l[:cap(l)][k] = 77
		}
	}
	if !same(f, full()) {
		t.Errorf("P2: one flow hangs on another: %+v", f)
	}

	whole := waits([]int{1, 2}, []int{2}, nil)
	f, _ = flowkeeper.Decode(written(whole))
	first := f.Nodes[0].After
	_ = append(first[:cap(first)], 77)
	for k := range first[:cap(first)] {
		first[:cap(first)][k] = 77
	}
	if f.Nodes[1].After[0] != 2 || f.Nodes[2].After != nil {
		t.Errorf("P2: one list hangs on another: %+v", f)
	}
}

// P2: Encode writes into nothing, and gives what nobody else has.
func TestWhatGoesInIsRead(t *testing.T) {
	f := full()
	b, err := flowkeeper.Encode(f)
	if err != nil || !same(f, full()) {
		t.Fatalf("P2: Encode wrote into its flow, or %v", err)
	}
	c, _, _ := plain.Encode(f)
	for i := range b[:cap(b)] {
		b[:cap(b)][i] = '!'
	}
	if d, _ := flowkeeper.Encode(f); !bytes.Equal(c, d) || !bytes.Equal(c, written(full())) {
		t.Errorf("P2: bytes hang on other bytes: %x, %x", c, d)
	}
	flowkeeper.Bound(f, 1)
	if !same(f, full()) {
		t.Errorf("P2: Bound wrote into its flow: %+v", f)
	}
}

// P2: an empty list is nil when it comes out, whatever it was when it went in.
func TestEmptyListIsNil(t *testing.T) {
	f := waits([]int{}, []int{0})
	b, err := flowkeeper.Encode(f)
	if err != nil || !bytes.Equal(b, written(f)) {
		t.Fatalf("P3: %x, %v", b, err)
	}
	g, err := flowkeeper.Decode(b)
	if err != nil || g.Nodes[0].After != nil || len(g.Nodes[1].After) != 1 {
		t.Errorf("P2: Decode(%x) = %#v, %v", b, g, err)
	}
}
