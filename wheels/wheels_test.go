package wheels_test

import (
	"fmt"
	"math/rand/v2"
	"slices"
	"testing"

	"flowkeeper/api"
	"flowkeeper/wheels"
)

type key struct {
	run  uint64
	node int
}

// P8, P9, P10, by keys that are structs, and by texts.
func TestKeys(t *testing.T) {
	w := wheels.New[key](5)
	check(t, &w, key{1, -1}, key{1, 0}, key{2, -1})
	v := wheels.New[string](5)
	check(t, &v, "", "b", "a")
}

func check[K comparable](t *testing.T, w *wheels.Wheel[K], a, b, c K) {
	t.Helper()
	if err := w.Cancel(a); err != api.ErrTimer {
		t.Errorf("P9: Cancel of none: %v", err)
	}
	for _, k := range []K{a, b, c} {
		if err := w.Set(k, 5000); err != nil {
			t.Errorf("P9: Set(%v): %v", k, err)
		}
	}
	if err := w.Set(b, 6); err != api.ErrTimer {
		t.Errorf("P9: Set of one that is there: %v", err)
	}
	if err := w.Cancel(b); err != nil {
		t.Errorf("P9: Cancel: %v", err)
	}
	if err := w.Set(b, 4999); err != nil {
		t.Errorf("P9: Set behind a Cancel: %v", err)
	}
	if at, ok := w.Next(); at != 4999 || !ok {
		t.Errorf("P10: Next = %d, %v", at, ok)
	}
	var got []K
	w.Advance(5000, func(k K, at uint64) { got = append(got, k) })
	if want := []K{b, a, c}; !slices.Equal(got, want) {
		t.Errorf("P10: %v come, want %v", got, want)
	}
	if at, ok := w.Next(); at != 0 || ok {
		t.Errorf("P10: Next = %d, %v, where there is none", at, ok)
	}
}

// P10: what comes is told at its time: it is gone, and timers may be set and cancelled then.
func TestTurnedWhileTicksPass(t *testing.T) {
	w := wheels.New[int](0)
	well := func(err error) {
		t.Helper()
		if err != nil {
			t.Error(err)
		}
	}
	for id, at := range []uint64{10, 70, 70, 70, 200, 9000} {
		well(w.Set(id, at))
	}
	var told []string
	w.Advance(4200, func(id int, at uint64) {
		if err := w.Cancel(id); err != api.ErrTimer {
			t.Errorf("P10: %d has come, and is there: %v", id, err)
		}
		now := fmt.Sprint(id, " at ", at)
		told = append(told, now)
		switch now {
		case "0 at 10":
			well(w.Set(0, 0))  // the next tick is 11
			well(w.Set(6, 70)) // behind all of 70
		case "1 at 70":
			well(w.Cancel(2))    // it would be the next
			well(w.Set(2, 4100)) // far away, but up to the new time
			well(w.Set(1, 70))   // too late for 70
			well(w.Cancel(4))
		case "6 at 70":
			well(w.Set(4, 4201))
		}
	})
	want := []string{"0 at 10", "0 at 11", "1 at 70", "3 at 70", "6 at 70", "1 at 71", "2 at 4100"}
	if !slices.Equal(told, want) {
		t.Errorf("P10: %v, want %v", told, want)
	}
	if at, ok := w.Next(); at != 4201 || !ok {
		t.Errorf("P10: Next = %d, %v, want 4201", at, ok)
	}
	told = nil
	w.Advance(0, func(id int, at uint64) { told = append(told, fmt.Sprint(id)) })
	w.Advance(1, func(id int, at uint64) { told = append(told, fmt.Sprint(id, " at ", at)) })
	if !slices.Equal(told, []string{"4 at 4201"}) {
		t.Errorf("P10: %v come", told)
	}
}

// P1: the zero wheel is one at 0.
func TestZero(t *testing.T) {
	var w wheels.Wheel[string]
	w.Advance(9, func(string, uint64) { t.Error("P8: a timer comes") })
	check(t, &w, "x", "y", "z")
}

// fill sets timers, cancels some, and lets time pass, so that they stand at all levels.
func fill(t *testing.T, r *rand.Rand) *wheels.Wheel[int] {
	t.Helper()
	start := r.Uint64() >> r.IntN(64)
	w := wheels.New[int](start)
	if now := w.Now(); now != min(start, api.MaxTime) {
		t.Fatalf("Now = %d, want %d", now, start)
	}
	narrow := r.IntN(60)
	for id := range 150 {
		if err := w.Set(id, w.Now()+r.Uint64()>>(2+narrow+r.IntN(62-narrow))); err != nil {
			t.Fatal(err)
		}
		switch r.IntN(9) {
		case 0:
			_ = w.Cancel(r.IntN(150)) // there may be none
		case 1:
			was, ticks := w.Now(), r.Uint64()>>(4+narrow+r.IntN(60-narrow))
			w.Advance(ticks, func(int, uint64) {})
			if now := w.Now(); now != min(was+ticks, api.MaxTime) {
				t.Fatalf("Now = %d, %d ticks behind %d", now, ticks, was)
			}
		}
	}
	return &w
}

// P10: All tells the timers in the order in which they come then, and turns nothing.
func TestAll(t *testing.T) {
	seen := 0
	for seed := range uint64(500) {
		w := fill(t, rand.New(rand.NewPCG(seed, 47)))
		var told [][2]uint64
		for range 2 {
			told = nil
			for id, at := range w.All() {
				told = append(told, [2]uint64{uint64(id), at})
			}
		}
		for most := range len(told) {
			count := 0
			for range w.All() {
				if count == most {
					break
				}
				count++
			}
		}
		if at, ok := w.Next(); ok != (len(told) > 0) || ok && at != told[0][1] {
			t.Fatalf("Next = %d, %v of %v", at, ok, told)
		}
		var came [][2]uint64
		w.Advance(api.MaxTime, func(id int, at uint64) {
			if now := w.Now(); now != at {
				t.Errorf("a timer of %d comes at %d", at, now)
			}
			came = append(came, [2]uint64{uint64(id), at})
		})
		if !slices.Equal(told, came) {
			t.Fatalf("All tells %v, and then come %v", told, came)
		}
		for range w.All() {
			t.Error("All tells a timer where there is none")
		}
		seen += len(came)
	}
	if seen < 10000 {
		t.Errorf("only %d timers came", seen)
	}
}
