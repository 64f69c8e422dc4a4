package flows

// A number that is read has so many bytes at the most.
const mostBytes = 3

// appendNumbers: the numbers, each seven bits at a time, behind b (P3). None is below 0.
func appendNumbers(b []byte, numbers ...int) []byte {
	for _, n := range numbers {
		for n > 0x7f {
			b = append(b, byte(n)|0x80)
			n >>= 7
		}
		b = append(b, byte(n))
	}
	return b
}

// badAt is thrown when bytes are no flow: the place of the byte that is told.
type badAt int

// reader goes through bytes, and throws a badAt where they are no flow.
type reader struct {
	b  []byte
	at int
}

// number reads the next number.
func (r *reader) number() int {
	first, n := r.at, 0
	for i := range mostBytes {
		if r.at == len(r.b) {
			panic(badAt(first))
		}
		c := r.b[r.at]
		r.at++
		n |= int(c&0x7f) << (7 * i)
		if c > 0x7f {
			continue
		}
		if c == 0 && i > 0 { // without this byte it would be the same number
			panic(badAt(first))
		}
		return n
	}
	panic(badAt(first))
}

// end: there is nothing more.
func (r *reader) end() {
	if r.at < len(r.b) {
		panic(badAt(r.at))
	}
}

// list reads how many there are, and these. There is no room made ahead: what is told may be far more than there are bytes.
func list[T any](r *reader, one func() T) []T {
	var l []T
	for range r.number() {
		l = append(l, one())
	}
	return l
}
