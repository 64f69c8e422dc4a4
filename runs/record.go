package runs

import (
	"flowkeeper/api"
	"flowkeeper/flows"
)

// Record: a call as bytes: which, and its flow's bytes or its number, the lowest bits first.
func Record(c api.Command) []byte {
	b := append([]byte{byte(c.Op)}, c.Data...)
	for n := c.N; n > 0; n >>= 8 {
		b = append(b, byte(n))
	}
	return b
}

// number: what Record has made of one.
func number(b []byte) (n uint64) {
	for i, c := range b {
		n |= uint64(c) << (8 * i)
	}
	return n
}

// Replay makes a call once more that was kept. What it says was said when it was made.
func (k *Keeper) Replay(record []byte) {
	if len(record) == 0 {
		return
	}
	rest := record[1:]
	n := number(rest)
	switch int(record[0]) {
	case api.Submit:
		if f, err := flows.Decode(rest); err == nil {
			k.Submit(f, kept)
		}
	case api.Poll:
		k.Poll(kept)
	case api.Beat:
		k.Beat(n, kept)
	case api.Complete:
		k.Complete(n, kept)
	case api.Fail:
		k.Fail(n, kept)
	case api.Cancel:
		k.Cancel(n, kept)
	case api.Tick:
		k.Tick(n, kept)
	case api.Seed:
		k.Seed(n, kept)
	}
}

// kept: what is made once more is kept already.
func kept() error { return nil }
