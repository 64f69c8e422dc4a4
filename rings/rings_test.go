package rings

import (
	"math/rand/v2"
	"slices"
	"testing"
)

// looks: what a ring has in order; and nothing stands in the room that it does not use.
func looks(t *testing.T, r *Ring[*int], want []*int) {
	t.Helper()
	if got := r.List(); !slices.Equal(got, want) || got == nil != (len(want) == 0) {
		t.Fatalf("a ring has %v, want %v", got, want)
	}
	for i, p := range r.room {
		if used := (i-r.first+len(r.room))%len(r.room) < r.count; used != (p != nil) {
			t.Fatalf("place %d of %d: %v; from %d on %d are used", i, len(r.room), p, r.first, r.count)
		}
	}
}

func some(n int) (l []*int) {
	for i := range n {
		l = append(l, &i)
	}
	return l
}

func TestEmpty(t *testing.T) {
	var r Ring[*int]
	r.Push()
	r.Drop(func(*int) bool { return false })
	if p, ok := r.Pop(); p != nil || ok {
		t.Errorf("Pop of none: %v, %v", p, ok)
	}
	looks(t, &r, nil)
	r.Push(some(1)...)
	r.Pop()
	r.Push()
	if p, ok := r.Pop(); p != nil || ok {
		t.Errorf("Pop of none any more: %v, %v", p, ok)
	}
	looks(t, &r, nil)
}

// Rings of all kinds, against a list.
func TestAgainstList(t *testing.T) {
	for seed := range uint64(300) {
		rnd := rand.New(rand.NewPCG(seed, 31))
		var r Ring[*int]
		var l []*int
		for range 300 {
			switch rnd.IntN(5) {
			case 0, 1:
				more := some(rnd.IntN(5))
				r.Push(more...)
				l = append(l, more...)
			case 2, 3:
				p, ok := r.Pop()
				if ok != (len(l) > 0) || ok && p != l[0] {
					t.Fatalf("Pop = %v, %v of %v", p, ok, l)
				}
				l = l[min(1, len(l)):]
			default:
				bar := rnd.IntN(7)
				gone := func(p *int) bool { return *p >= bar }
				r.Drop(gone)
				l = slices.DeleteFunc(l, gone)
			}
			looks(t, &r, l)
		}
	}
}

// Room is used again: many that come and go need little of it.
func TestRoom(t *testing.T) {
	var r Ring[int]
	r.Push(1, 2, 3)
	for i := range 1000 {
		r.Push(i)
		r.Pop()
	}
	if len(r.room) > 8 {
		t.Errorf("room for %d, where there are 3", len(r.room))
	}
}

// A list that comes out, and the items that are pushed, share nothing with the ring.
func TestListIsNew(t *testing.T) {
	var r Ring[int]
	l := []int{1, 2, 3}
	r.Push(l...)
	l[0] = 7
	m := r.List()
	m[1] = 7
	if got := r.List(); !slices.Equal(got, []int{1, 2, 3}) {
		t.Errorf("a ring has %v", got)
	}
}
