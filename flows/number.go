package flows

import "flowkeeper/numbers"

// A number that is read has so many bytes at the most.
const mostBytes = 3

// badAt is thrown when bytes are no flow: the place of the byte that is told.
type badAt int

// reader goes through bytes, and throws a badAt where they are no flow.
type reader struct {
	b  []byte
	at int
}

// number reads the next number.
func (r *reader) number() int {
	n, length, ok := numbers.Read(r.b[r.at:], mostBytes)
	if !ok {
		panic(badAt(r.at))
	}
	r.at += length
	return int(n)
}

// end: there is nothing more.
func (r *reader) end() {
	if r.at < len(r.b) {
		panic(badAt(r.at))
	}
}

// list reads how many there are, and these. There is no room made ahead: what is told may be far more than there are bytes.
func list[T any](r *reader, one func() T) []T {
	var l []T
	for range r.number() {
		l = append(l, one())
	}
	return l
}
