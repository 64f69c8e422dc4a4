package runs

import (
	"math"
	"slices"
	"testing"

	"flowkeeper/api"
	"flowkeeper/flows"
)

// A record has its call, and no bytes in vain.
func TestRecord(t *testing.T) {
	for _, c := range []struct {
		call api.Command
		want []byte
	}{
		{api.Command{Op: api.Poll}, []byte{2}},
		{api.Command{Op: api.Tick}, []byte{7}},
		{api.Command{Op: api.Tick, N: 1}, []byte{7, 1}},
		{api.Command{Op: api.Seed, N: 0x1ff}, []byte{8, 0xff, 1}},
		{api.Command{Op: api.Cancel, N: 1 << 56}, []byte{6, 0, 0, 0, 0, 0, 0, 0, 1}},
		{api.Command{Op: api.Submit, Data: "\x00\x01\xff"}, []byte{1, 0, 1, 0xff}},
	} {
		if got := Record(c.call); !slices.Equal(got, c.want) {
			t.Errorf("Record(%+v) = %v, want %v", c.call, got, c.want)
		}
	}
	for k := range 64 {
		for _, n := range []uint64{0, 1<<k - 1, 1 << k, 1<<k + 1, math.MaxUint64 >> k} {
			var keeper Keeper
			keeper.Replay(Record(api.Command{Op: api.Seed, N: n}))
			if _, seed := keeper.Clock(); seed != n {
				t.Errorf("of the seed %d there is %d", n, seed)
			}
		}
	}
}

// What is no record of a call turns nothing.
func TestReplayOfRot(t *testing.T) {
	b, _ := flows.Encode(api.Flow{Deadline: 1, Nodes: []api.Node{{Budget: 1, Close: 1, Base: 1, Cap: 1}}})
	wrong := [][]byte{nil, {}, {api.Submit}, {api.Submit, 7}, append([]byte{api.Submit}, b[1:]...), append([]byte{api.Query}, b...), {api.Complete, 1}, {api.Cancel, 1}}
	for op := range 256 {
		if op == 0 || op > api.Seed {
			wrong = append(wrong, []byte{byte(op)}, []byte{byte(op), 1}, append([]byte{byte(op)}, b...))
		}
	}
	for _, record := range wrong {
		var k Keeper
		k.Replay(record)
		now, seed := k.Clock()
		for range k.Runs() {
			t.Errorf("a run of %v", record)
		}
		if now != 0 || seed != 0 {
			t.Errorf("%v: at %d, with the seed %d", record, now, seed)
		}
	}
	var k Keeper
	k.Replay(append([]byte{api.Seed, 5}, make([]byte, 20)...))
	if _, seed := k.Clock(); seed != 5 {
		t.Errorf("a number of many bytes is %d", seed)
	}
}
