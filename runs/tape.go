package runs

import "flowkeeper/numbers"

// tape is numbers, one behind the other, that are written down or read back. What passes over it is told once for both.
type tape struct {
	bytes []byte
	back  bool // they are read back
	torn  bool // no numbers could be read back; then they are 0
}

// pass: the numbers at these places pass over the tape. None is below 0.
func pass[N ~int | ~uint64](t *tape, places ...*N) {
	for _, p := range places {
		if t.back {
			*p = N(t.next())
		} else {
			t.bytes = numbers.Append(t.bytes, uint64(*p))
		}
	}
}

// next: the number that is read back.
func (t *tape) next() uint64 {
	n, length, ok := numbers.Read(t.bytes, numbers.Most)
	t.torn = t.torn || !ok
	t.bytes = t.bytes[length:]
	return n
}

// passList: how many items there are passes over the tape, and then each; a list that is read back is empty ahead of that. There is no room made: what is read back may tell of more items than there are numbers.
func passList[T any](t *tape, list *[]T, each func(item *T)) {
	count := uint64(len(*list))
	pass(t, &count)
	for i := range count {
		if t.torn {
			return
		}
		if t.back {
			var item T
			*list = append(*list, item)
		}
		each(&(*list)[i])
	}
}

// passNumbers: a list of numbers passes over the tape.
func passNumbers[N ~int | ~uint64](t *tape, list *[]N) {
	passList(t, list, func(item *N) { pass(t, item) })
}
