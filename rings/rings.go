// Package rings: lists that grow behind their last item and go from their first one on.
package rings

import "slices"

// Ring: items in room that is gone round: behind its last place comes its first one. The zero one is empty.
type Ring[T any] struct {
	room  []T
	first int // where the first item stands
	count int
}

// Push: these come behind all that are there.
func (r *Ring[T]) Push(items ...T) {
	if need := r.count + len(items); need > len(r.room) {
		room := make([]T, max(need, 2*len(r.room)))
		copy(room, r.List())
		r.room, r.first = room, 0
	}
	for _, item := range items {
		r.room[(r.first+r.count)%len(r.room)] = item
		r.count++
	}
}

// Empty: there is no item.
func (r *Ring[T]) Empty() bool { return r.count == 0 }

// Pop: the first item, which is gone then; false: there is none.
func (r *Ring[T]) Pop() (item T, ok bool) {
	if r.Empty() {
		return item, false
	}
	place := r.room[r.first : r.first+1]
	item = place[0]
	clear(place) // or the ring would hold on to what it has handed out
	r.first = (r.first + 1) % len(r.room)
	r.count--
	return item, true
}

// Drop: all items of which gone says so are gone; the others stay in their order.
func (r *Ring[T]) Drop(gone func(item T) bool) {
	left := slices.DeleteFunc(r.List(), gone)
	clear(r.room)
	r.first, r.count = 0, copy(r.room, left)
}

// List: all items in their order, in a list of its own; nil: there is none.
func (r *Ring[T]) List() []T {
	if r.Empty() {
		return nil
	}
	list := make([]T, r.count)
	n := copy(list, r.room[r.first:])
	copy(list[n:], r.room)
	return list
}
