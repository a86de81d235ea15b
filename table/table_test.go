package table_test

import (
	"crypto/sha256"
	"encoding/binary"
	"math"
	"slices"
	"testing"

	"vagabond/api"
	"vagabond/table"
)

const greatest = math.MaxUint64

// made: an empty table.
func made[T any](t *testing.T, shards, most int) *table.Table[T] {
	t.Helper()
	x, code := table.New[T](shards, most)
	if code != api.OK || x == nil {
		t.Fatalf("New(%d, %d): %v", shards, most, code)
	}
	return x
}

// inserts: what Insert answers.
func inserts[T any](t *testing.T, x *table.Table[T], id api.ID, v T, wanted api.Errno) {
	t.Helper()
	if code := x.Insert(id, v); code != wanted {
		t.Errorf("Insert(%d): %v, wanted %v", id, code, wanted)
	}
}

// removes: what Remove answers.
func removes[T any](t *testing.T, x *table.Table[T], id api.ID, wanted api.Errno) {
	t.Helper()
	if code := x.Remove(id); code != wanted {
		t.Errorf("Remove(%d): %v, wanted %v", id, code, wanted)
	}
}

// has: an id's value.
func has[T comparable](t *testing.T, x *table.Table[T], id api.ID, wanted T) {
	t.Helper()
	if v, there := x.Get(id); v != wanted || !there || !x.Ever(id) {
		t.Errorf("Get(%d): %v, %v, wanted %v; ever %v", id, v, there, wanted, x.Ever(id))
	}
}

// hasNot: the id isn't there, but it may have been.
func hasNot[T comparable](t *testing.T, x *table.Table[T], id api.ID, ever bool) {
	t.Helper()
	if v, there := x.Get(id); v != *new(T) || there || x.Ever(id) != ever {
		t.Errorf("Get(%d): %v, %v; ever %v, wanted %v", id, v, there, x.Ever(id), ever)
	}
	if code := x.Put(id, *new(T)); code != api.ErrNone {
		t.Errorf("Put(%d): %v", id, code)
	}
	removes(t, x, id, api.ErrNone)
}

// all: keeps whatever there is.
func all[T any](api.ID, T) bool { return true }

// holds: the ids that are there.
func holds[T any](t *testing.T, x *table.Table[T], wanted ...api.ID) {
	t.Helper()
	if !slices.Equal(x.IDs(), wanted) || x.Len() != len(wanted) || !slices.Equal(x.Where(all[T]), wanted) {
		t.Errorf("%d ids %v, all that are kept %v, wanted %v", x.Len(), x.IDs(), x.Where(all[T]), wanted)
	}
}

// P20.1: from 1 to 16 shards, from 1 to 64 ids; ErrRange of others.
func TestNew(t *testing.T) {
	good := func(n, most int) bool { return n >= 1 && n <= most }
	edges := []int{math.MinInt, -1, 0, 1, 2, 15, 16, 17, 63, 64, 65, math.MaxInt}
	for _, shards := range edges {
		for _, most := range edges {
			x, code := table.New[string](shards, most)
			if good(shards, 16) && good(most, 64) {
				if x == nil || code != api.OK {
					t.Fatalf("New(%d, %d): %v", shards, most, code)
				}
				holds(t, x)
				hasNot(t, x, 0, false)
				hasNot(t, x, greatest, false)
			} else if x != nil || code != api.ErrRange {
				t.Errorf("New(%d, %d): %v, %v", shards, most, x, code)
			}
		}
	}
}

// P20.1: what is inserted is there, with its value; each is another one's neighbour, whatever shard it is in.
func TestInsertAndGet(t *testing.T) {
	for _, shards := range []int{1, 2, 16} {
		x := made[uint64](t, shards, 64)
		var wanted []api.ID
		for i := range uint64(32) {
			inserts(t, x, api.ID(greatest-i), i, api.OK)
			inserts(t, x, api.ID(31-i), 100+i, api.OK)
		}
		for i := range uint64(32) {
			has(t, x, api.ID(greatest-i), i)
			has(t, x, api.ID(31-i), 100+i)
			hasNot(t, x, api.ID(32+i), false)
			wanted = append(wanted, api.ID(i), api.ID(greatest-i))
		}
		slices.Sort(wanted)
		holds(t, x, wanted...)
	}
}

// P20.1: ErrThere, where the id was ever inserted, told ahead of ErrFull; then its value stays. The example of the chapter.
func TestInsertThere(t *testing.T) {
	x := made[string](t, 3, 2)
	inserts(t, x, 1, "a", api.OK)
	inserts(t, x, 1, "b", api.ErrThere)
	has(t, x, 1, "a")
	removes(t, x, 1, api.OK)
	inserts(t, x, 1, "c", api.ErrThere)
	hasNot(t, x, 1, true)
	inserts(t, x, 2, "d", api.OK)
	inserts(t, x, 3, "e", api.OK)
	inserts(t, x, 1, "f", api.ErrThere)
	inserts(t, x, 2, "g", api.ErrThere)
	has(t, x, 2, "d")
	holds(t, x, 2, 3)
}

// P20.1: ErrFull, where there are as many as may be; what was refused wasn't inserted, and may come when one is gone.
func TestInsertFull(t *testing.T) {
	for _, most := range []int{1, 2, 63, 64} {
		x := made[int](t, 5, most)
		for i := range most {
			inserts(t, x, api.ID(i), i, api.OK)
		}
		for range 3 {
			inserts(t, x, 100, 7, api.ErrFull)
			inserts(t, x, 101, 7, api.ErrFull)
		}
		hasNot(t, x, 100, false)
		if x.Len() != most {
			t.Errorf("%d of %d", x.Len(), most)
		}
		removes(t, x, 0, api.OK)
		inserts(t, x, 100, 8, api.OK)
		has(t, x, 100, 8)
		inserts(t, x, 101, 7, api.ErrFull)
		if x.Len() != most {
			t.Errorf("%d of %d", x.Len(), most)
		}
	}
}

// P20.1: Put is another value of an id that is there, of no other one; Remove takes it away, once.
func TestPutAndRemove(t *testing.T) {
	x := made[string](t, 2, 3)
	hasNot(t, x, 5, false)
	for id := range api.ID(3) {
		inserts(t, x, id, "old", api.OK)
	}
	if code := x.Put(1, "new"); code != api.OK {
		t.Errorf("Put: %v", code)
	}
	has(t, x, 0, "old")
	has(t, x, 1, "new")
	has(t, x, 2, "old")
	holds(t, x, 0, 1, 2)
	removes(t, x, 1, api.OK)
	hasNot(t, x, 1, true)
	holds(t, x, 0, 2)
	if code := x.Put(0, ""); code != api.OK {
		t.Errorf("Put of the zero value: %v", code)
	}
	has(t, x, 0, "")
	removes(t, x, 0, api.OK)
	removes(t, x, 2, api.OK)
	holds(t, x)
}

// P20.2: an id's shard, by a library's sum.
func TestShard(t *testing.T) {
	ids := []api.ID{0, 1, 2, 255, 256, 1 << 32, 1<<63 - 1, 1 << 63, greatest}
	for i := range api.ID(200) {
		ids = append(ids, i*i*i*982451653)
	}
	for shards := 1; shards <= 16; shards++ {
		x := made[int](t, shards, 1)
		used := map[int]int{}
		for _, id := range ids {
			sum := sha256.Sum256(binary.BigEndian.AppendUint64(nil, uint64(id)))
			wanted := int(uint64(binary.BigEndian.Uint32(sum[:4])) % uint64(shards))
			if got := x.Shard(id); got != wanted {
				t.Errorf("Shard(%d) of %d: %d, wanted %d", id, shards, got, wanted)
			}
			used[x.Shard(id)]++
		}
		if len(used) != shards {
			t.Errorf("of %d shards %d are used", shards, len(used))
		}
	}
}

// P20.2: Where keeps by ids and by values, rising.
func TestWhere(t *testing.T) {
	x := made[int](t, 4, 64)
	for i := range 40 {
		inserts(t, x, api.ID((i*27)%40), (i*27)%40%5, api.OK)
	}
	removes(t, x, 8, api.OK)
	if got := x.Where(func(id api.ID, v int) bool { return v == 3 && id > 10 }); !slices.Equal(got, []api.ID{13, 18, 23, 28, 33, 38}) {
		t.Errorf("3 of above 10: %v", got)
	}
	if got := x.Where(func(id api.ID, v int) bool { return uint64(id)%5 != uint64(v) || id == 8 }); len(got) != 0 {
		t.Errorf("other values: %v", got)
	}
}

// P20.2: Where asks by rising ids, each once, so that who is kept hangs on nothing but what is there.
func TestWhereAsksInOrder(t *testing.T) {
	for _, shards := range []int{1, 3, 16} {
		x := made[int](t, shards, 64)
		for i := range 64 {
			inserts(t, x, api.ID((i*27)%64), i, api.OK)
		}
		var asked []api.ID
		got := x.Where(func(id api.ID, _ int) bool {
			asked = append(asked, id)
			return len(asked) <= 3
		})
		if !slices.Equal(asked, x.IDs()) || !slices.Equal(got, []api.ID{0, 1, 2}) {
			t.Errorf("of %d shards asked %v, kept %v", shards, asked, got)
		}
	}
}

// P1: Where ends, whatever its closure asks of the table.
func TestWhereAsksTheTable(t *testing.T) {
	x := made[int](t, 2, 4)
	for i := range 4 {
		inserts(t, x, api.ID(i), i, api.OK)
	}
	got := x.Where(func(id api.ID, v int) bool {
		if w, there := x.Get(id); w != v || !there {
			t.Errorf("Get(%d): %d, %v", id, w, there)
		}
		if len(x.IDs()) != x.Len() || len(x.Where(all[int])) != x.Len() {
			t.Errorf("%v, %d", x.IDs(), x.Len())
		}
		if id%2 == 0 {
			removes(t, x, id, api.OK)
			inserts(t, x, id+10, v, api.OK)
			return false
		}
		return x.Put(id, v*10) == api.OK
	})
	if !slices.Equal(got, []api.ID{1, 3}) {
		t.Errorf("kept %v", got)
	}
	holds(t, x, 1, 3, 10, 12)
	has(t, x, 3, 30)
	has(t, x, 10, 0)
}

// P20.2: of nil ErrNil, false, none, 0; nothing is asked of what there isn't.
func TestNil(t *testing.T) {
	var x *table.Table[string]
	for _, id := range []api.ID{0, 1, greatest} {
		inserts(t, x, id, "a", api.ErrNil)
		removes(t, x, id, api.ErrNil)
		if code := x.Put(id, "a"); code != api.ErrNil {
			t.Errorf("Put: %v", code)
		}
		if v, there := x.Get(id); v != "" || there || x.Ever(id) || x.Shard(id) != 0 {
			t.Errorf("Get: %q, %v, ever %v, shard %d", v, there, x.Ever(id), x.Shard(id))
		}
	}
	got := x.Where(func(api.ID, string) bool {
		t.Error("nil has something to ask of")
		return true
	})
	if len(got) != 0 || len(x.IDs()) != 0 || x.Len() != 0 {
		t.Errorf("nil: %v, %v, %d", got, x.IDs(), x.Len())
	}
}

// The rule of memory: lists that were answered are nobody else's; tables are by themselves.
func TestListsAreNew(t *testing.T) {
	x, y := made[int](t, 1, 4), made[int](t, 1, 4)
	for id := range api.ID(3) {
		inserts(t, x, id, 1, api.OK)
	}
	l, kept := x.IDs(), x.Where(all[int])
	l[0], kept[0] = 9, 9
	_, _ = append(l, 8), append(kept, 8)
	holds(t, x, 0, 1, 2)
	removes(t, x, 1, api.OK)
	if !slices.Equal(l, []api.ID{9, 1, 2}) || !slices.Equal(kept, []api.ID{9, 1, 2}) {
		t.Errorf("answers became others: %v, %v", l, kept)
	}
	holds(t, y)
	hasNot(t, y, 0, false)
}

// Tables are of any type: what has no order and can't be compared too.
func TestOfAnyType(t *testing.T) {
	x := made[[]func() int](t, 2, 1)
	inserts(t, x, 1, []func() int{func() int { return 7 }}, api.OK)
	if v, there := x.Get(1); !there || len(v) != 1 || v[0]() != 7 {
		t.Errorf("Get: %v", there)
	}
	if v, there := x.Get(2); there || v != nil {
		t.Errorf("Get of none: %v, %v", v == nil, there)
	}
}
