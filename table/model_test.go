package table_test

import (
	"maps"
	"math/rand"
	"slices"
	"testing"

	"vagabond/api"
)

// model is a table as the chapter tells it: the values of those that are there, and all that ever were.
type model struct {
	most   int
	values map[api.ID]int
	ever   map[api.ID]int
}

// empty: a model of so many at most.
func empty(most int) *model { return &model{most, map[api.ID]int{}, map[api.ID]int{}} }

// insert: what Insert must answer.
func (m *model) insert(id api.ID, v int) api.Errno {
	if m.ever[id] > 0 {
		return api.ErrThere
	}
	if len(m.values) == m.most {
		return api.ErrFull
	}
	m.values[id], m.ever[id] = v, 1
	return api.OK
}

// put: what Put must answer.
func (m *model) put(id api.ID, v int) api.Errno {
	if _, there := m.values[id]; !there {
		return api.ErrNone
	}
	m.values[id] = v
	return api.OK
}

// remove: what Remove must answer.
func (m *model) remove(id api.ID) api.Errno {
	if _, there := m.values[id]; !there {
		return api.ErrNone
	}
	delete(m.values, id)
	return api.OK
}

// P20.1, P20.2, P20.3: whatever is asked in whatever order, the table is what the chapter says.
func TestWhateverIsAsked(t *testing.T) {
	r := rand.New(rand.NewSource(20))
	for round := range 60 {
		most, ids := 1+r.Intn(8), 1+r.Intn(60)
		x, m := made[int](t, 1+round%16, most), empty(most)
		for step := range 150 {
			id := api.ID(r.Intn(ids))
			var got, wanted api.Errno
			switch r.Intn(4) {
			case 0, 1:
				got, wanted = x.Insert(id, step), m.insert(id, step)
			case 2:
				got, wanted = x.Put(id, step), m.put(id, step)
			case 3:
				got, wanted = x.Remove(id), m.remove(id)
			}
			if got != wanted {
				t.Fatalf("%v, wanted %v", got, wanted)
			}
			v, there := x.Get(id)
			if w, is := m.values[id]; v != w || there != is || x.Ever(id) != (m.ever[id] > 0) {
				t.Fatalf("Get(%d): %d, %v, wanted %d, %v", id, v, there, w, is)
			}
			holds(t, x, slices.Sorted(maps.Keys(m.values))...)
			odd := slices.DeleteFunc(slices.Sorted(maps.Keys(m.values)), func(id api.ID) bool { return m.values[id]%2 == 0 })
			if got := x.Where(func(_ api.ID, v int) bool { return v%2 == 1 }); !slices.Equal(got, odd) {
				t.Fatalf("odd values: %v, wanted %v", got, odd)
			}
			if t.Failed() {
				return
			}
		}
	}
}
