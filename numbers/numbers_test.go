package numbers

import (
	"bytes"
	"encoding/binary"
	"math"
	"math/rand/v2"
	"testing"
)

// Each number in as few bytes as can be, as the library's Uvarint has it.
func TestAppend(t *testing.T) {
	l := []uint64{0, 1, 127, 128, math.MaxUint64}
	for k := range 64 {
		l = append(l, 1<<k-1, 1<<k, 1<<k+1)
	}
	var all, want []byte
	for _, n := range l {
		b := Append(nil, n)
		if !bytes.Equal(b, binary.AppendUvarint(nil, n)) {
			t.Errorf("%d is %x", n, b)
		}
		if n <= math.MaxInt && !bytes.Equal(Append(nil, int(n)), b) {
			t.Errorf("the int %d is %x", n, Append(nil, int(n)))
		}
		all, want = Append(all, n, 5), append(append(want, b...), 5)
	}
	if !bytes.Equal(all, want) || !bytes.Equal(Append(nil, l...), Append(Append(nil, l[:7]...), l[7:]...)) {
		t.Errorf("one behind the other they are %x", all)
	}
	if b := Append[int]([]byte{9}); !bytes.Equal(b, []byte{9}) {
		t.Errorf("no numbers: %x", b)
	}
}

// reads: what is read of b, and what should be.
func reads(t *testing.T, b []byte, most int, n uint64, length int, ok bool) {
	t.Helper()
	if m, l, is := Read(b, most); m != n || l != length || is != ok {
		t.Errorf("Read(%x, %d) = %d, %d, %v, want %d, %d, %v", b, most, m, l, is, n, length, ok)
	}
}

func TestRead(t *testing.T) {
	for k := range 64 {
		for _, n := range []uint64{1<<k - 1, 1 << k, 1<<k + 1, math.MaxUint64 >> k} {
			b := Append(nil, n)
			for most := range 13 {
				if most < len(b) {
					reads(t, b, most, 0, 0, false)
					continue
				}
				reads(t, b, most, n, len(b), true)
				reads(t, append(bytes.Clone(b), 0x80, 0xff), most, n, len(b), true)
			}
			for cut := range len(b) {
				reads(t, b[:cut], Most, 0, 0, false)
			}
			longer := append(bytes.Clone(b), 0)
			longer[len(b)-1] |= 0x80
			reads(t, longer, Most, 0, 0, false)
		}
	}
	reads(t, nil, Most, 0, 0, false)
	nine := bytes.Repeat([]byte{0xff}, 9)
	reads(t, append(nine[:9:9], 1), Most, math.MaxUint64, 10, true)
	for _, last := range []byte{0, 2, 3, 0x7f, 0x80, 0x81, 0xff} { // 65 bits, or no end
		reads(t, append(nine[:9:9], last), Most, 0, 0, false)
		reads(t, append(nine[:9:9], last, 1), 20, 0, 0, false)
	}
}

// Whatever is read is what would be written.
func TestReadOfAny(t *testing.T) {
	r := rand.New(rand.NewPCG(1, 89))
	for range 100000 {
		b := make([]byte, r.IntN(12))
		for i := range b {
			b[i] = byte(r.Uint32())
			if r.IntN(3) > 0 {
				b[i] |= 0x80
			}
		}
		n, length, ok := Read(b, Most)
		if ok && !bytes.Equal(Append(nil, n), b[:length]) || !ok && (n != 0 || length != 0) {
			t.Fatalf("Read(%x) = %d, %d, %v", b, n, length, ok)
		}
		if m, l := binary.Uvarint(b); !ok && l > 0 && bytes.Equal(binary.AppendUvarint(nil, m), b[:l]) {
			t.Fatalf("Read(%x) says it is no number, and it is %d", b, m)
		}
	}
}
