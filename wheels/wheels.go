// Package wheels: timers by any keys, kept by a wheel of wheels.
package wheels

import (
	"cmp"
	"iter"
	"math/bits"
	"slices"

	"flowkeeper/api"
)

const (
	width  = 6  // bits of a time that choose one of the api.Slots of a level
	levels = 11 // so many widths hold the 63 bits of api.MaxTime
)

// Wheel: timers by keys. The zero one is at the time 0, without timers.
//
// A timer stands at the level of the highest width of bits in which its time differs from now, in the slot of these bits. So all timers of a level are due ahead of those of the levels above it, the filled slots of a level are of times to come, and those due at the same time stand in one list, in the order in which they were set.
type Wheel[K comparable] struct {
	now    uint64
	due    map[K]uint64
	slots  [levels][api.Slots][]K
	filled [levels]uint64 // a bit for each slot that has timers
}

// New: a wheel at that time, without timers (P8).
func New[K comparable](now uint64) Wheel[K] {
	return Wheel[K]{now: min(now, api.MaxTime)}
}

// Now: the time of the wheel.
func (w *Wheel[K]) Now() uint64 { return w.now }

// Set: a timer is due at that time, or at the next tick, if that is later (P9).
func (w *Wheel[K]) Set(key K, at uint64) error {
	if _, ok := w.due[key]; ok {
		return api.ErrTimer
	}
	if len(w.due) >= api.MaxTimers {
		return api.ErrMany
	}
	if w.due == nil {
		w.due = map[K]uint64{}
	}
	w.due[key] = min(max(at, w.now+1), api.MaxTime)
	w.put(key)
	return nil
}

// Cancel: that timer is gone (P9).
func (w *Wheel[K]) Cancel(key K) error {
	if _, ok := w.due[key]; !ok {
		return api.ErrTimer
	}
	w.drop(key)
	return nil
}

// Next: when the first timer is due; false: there is none (P10).
func (w *Wheel[K]) Next() (uint64, bool) {
	level, slot, ok := w.first()
	if !ok {
		return 0, false
	}
	next := uint64(api.MaxTime)
	for _, key := range w.slots[level][slot] {
		next = min(next, w.due[key])
	}
	return next, true
}

// All walks through the timers in the order in which they come. They are not to be turned meanwhile.
func (w *Wheel[K]) All() iter.Seq2[K, uint64] {
	return func(yield func(key K, at uint64) bool) {
		for level, word := range w.filled {
			for ; word != 0; word &= word - 1 {
				for _, key := range w.sorted(level, bits.TrailingZeros64(word)) {
					if !yield(key, w.due[key]) {
						return
					}
				}
			}
		}
	}
}

// sorted: the timers of a slot in the order in which they come: those of the same time stay as they were set.
func (w *Wheel[K]) sorted(level, slot int) []K {
	list := slices.Clone(w.slots[level][slot])
	slices.SortStableFunc(list, func(a, b K) int { return cmp.Compare(w.due[a], w.due[b]) })
	return list
}

// Advance: so many ticks pass; come is told each timer that is due in them, when it is that time and the timer is gone (P10). It may set timers, and cancel others: what it sets comes too, if it is due up to the new time.
func (w *Wheel[K]) Advance(ticks uint64, come func(key K, at uint64)) {
	to := w.now + min(ticks, api.MaxTime-w.now)
	for {
		level, slot, ok := w.first()
		if !ok || w.start(level, slot) > to {
			w.now = to
			return
		}
		w.now = w.start(level, slot)
		if level > 0 {
			w.spread(level, slot)
			continue
		}
		key := w.slots[level][slot][0]
		w.drop(key)
		come(key, w.now)
	}
}

// first: the slot in which the first timer stands.
func (w *Wheel[K]) first() (level, slot int, ok bool) {
	for i, word := range w.filled {
		if word != 0 {
			return i, bits.TrailingZeros64(word), true
		}
	}
	return 0, 0, false
}

// start: the first time of a slot that is filled.
func (w *Wheel[K]) start(level, slot int) uint64 {
	above := (level + 1) * width
	return w.now>>above<<above | uint64(slot)<<(level*width)
}

// place: where a timer that is due then stands.
func (w *Wheel[K]) place(at uint64) (level, slot int) {
	differ := bits.Len64(at ^ w.now)
	level = max(differ-1, 0) / width // nothing differs when it is due now
	return level, int(at >> (level * width) % api.Slots)
}

// put: a timer stands in its place, behind all that do.
func (w *Wheel[K]) put(key K) {
	level, slot := w.place(w.due[key])
	w.slots[level][slot] = append(w.slots[level][slot], key)
	w.filled[level] |= 1 << slot
}

// drop: a timer is gone.
func (w *Wheel[K]) drop(key K) {
	level, slot := w.place(w.due[key])
	list := w.slots[level][slot]
	i := slices.Index(list, key)
	list = slices.Delete(list, i, i+1)
	w.slots[level][slot] = list
	if len(list) == 0 {
		w.filled[level] &^= 1 << slot
	}
	delete(w.due, key)
}

// spread: now has come to that slot, so its timers stand at lower levels.
func (w *Wheel[K]) spread(level, slot int) {
	list := w.slots[level][slot]
	w.slots[level][slot] = nil
	w.filled[level] &^= 1 << slot
	for _, key := range list {
		w.put(key)
	}
}
