package table_test

import (
	"fmt"
	"maps"
	"math/rand"
	"slices"
	"sync"
	"sync/atomic"
	"testing"

	"vagabond/api"
	"vagabond/table"
)

// atOnce: so many goroutines do something, all from one moment on.
func atOnce(workers int, do func(worker int)) {
	var all sync.WaitGroup
	begin := make(chan int)
	for worker := range workers {
		all.Go(func() {
			<-begin
			do(worker)
		})
	}
	close(begin)
	all.Wait()
}

// P20.3: of a crowd as many are let in as may be, each id once.
func TestCrowd(t *testing.T) {
	for round := range 40 {
		most := 1 + round%9
		x := made[int](t, 1+round%16, most)
		var let [20]atomic.Int64
		var passed, refused atomic.Int64
		atOnce(8, func(worker int) {
			for i := range 20 {
				id := api.ID(i+worker) % 20
				switch code := x.Insert(id, worker); code {
				case api.OK:
					let[id].Add(1)
					passed.Add(1)
				case api.ErrThere, api.ErrFull:
					refused.Add(1)
				default:
					t.Errorf("Insert: %v", code)
				}
				if x.Len() > most || len(x.IDs()) > most {
					t.Errorf("%d of %d: %v", x.Len(), most, x.IDs())
				}
			}
		})
		if passed.Load() != int64(most) || refused.Load() != int64(160-most) || x.Len() != most || len(x.IDs()) != most {
			t.Fatalf("of %d %d were let in: %v", most, passed.Load(), x.IDs())
		}
		for id := range let {
			_, there := x.Get(api.ID(id))
			if n := let[id].Load(); n > 1 || there != (n == 1) || x.Ever(api.ID(id)) != there {
				t.Fatalf("%d was let in %d times; there %v", id, n, there)
			}
		}
	}
}

// P20.2, P20.3: each that comes goes again: never more than may be, none comes twice, and none is left.
func TestComeAndGo(t *testing.T) {
	const most = 3
	x := made[int](t, 4, most)
	var live, passed atomic.Int64
	atOnce(8, func(worker int) {
		for i := range 300 {
			id := api.ID(worker*300 + i)
			if x.Insert(id, worker) != api.OK {
				continue
			}
			passed.Add(1)
			if n := live.Add(1); n > most {
				t.Errorf("%d live", n)
			}
			if v, there := x.Get(id); v != worker || !there {
				t.Errorf("Get(%d): %d, %v", id, v, there)
			}
			live.Add(-1)
			if x.Remove(id) != api.OK || x.Insert(id, worker) != api.ErrThere {
				t.Errorf("%d doesn't go, or comes again", id)
			}
		}
	})
	holds(t, x)
	if passed.Load() < 100 {
		t.Errorf("only %d came", passed.Load())
	}
}

// P20.2: IDs is of one moment: while one comes ahead of another's going, there is ever one at least.
func TestIDsAreOfOneMoment(t *testing.T) {
	x := made[int](t, 16, 2)
	inserts(t, x, 0, 0, api.OK)
	var over atomic.Bool
	atOnce(4, func(worker int) {
		if worker > 0 {
			for !over.Load() {
				if ids := x.IDs(); len(ids) < 1 || len(ids) > 2 || len(ids) == 2 && ids[1] != ids[0]+1 {
					t.Errorf("IDs: %v", ids)
				}
				if n := x.Len(); n < 1 || n > 2 {
					t.Errorf("Len: %d", n)
				}
			}
			return
		}
		for id := range api.ID(3000) {
			if x.Insert(id+1, 0) != api.OK || x.Remove(id) != api.OK {
				t.Errorf("%d doesn't come, or its elder one doesn't go", id+1)
			}
		}
		over.Store(true)
	})
	holds(t, x, 3000)
}

// ask is something that was asked of a table, its answer, and when it began and ended.
type ask struct {
	what       int
	id         api.ID
	value      int
	answer     string
	begin, end int64
}

// asked: what a table answers.
func asked(x *table.Table[int], a ask) string {
	switch a.what {
	case 0, 1:
		return fmt.Sprint(x.Insert(a.id, a.value))
	case 2:
		return fmt.Sprint(x.Remove(a.id))
	case 3:
		return fmt.Sprint(x.Put(a.id, a.value))
	case 4:
		return fmt.Sprint(x.Get(a.id))
	case 5:
		return fmt.Sprint(x.Ever(a.id))
	case 6:
		return fmt.Sprint(x.Len())
	}
	return fmt.Sprint(x.IDs())
}

// ought: what a model answers.
func ought(m *model, a ask) string {
	switch a.what {
	case 0, 1:
		return fmt.Sprint(m.insert(a.id, a.value))
	case 2:
		return fmt.Sprint(m.remove(a.id))
	case 3:
		return fmt.Sprint(m.put(a.id, a.value))
	case 4:
		v, there := m.values[a.id]
		return fmt.Sprint(v, there)
	case 5:
		return fmt.Sprint(m.ever[a.id] > 0)
	case 6:
		return fmt.Sprint(len(m.values))
	}
	return fmt.Sprint(slices.Sorted(maps.Keys(m.values)))
}

// inOrder: is there an order, in which none stands behind one that began when it had ended, and in which each answers what it did?
func inOrder(m *model, left []ask) bool {
	if len(left) == 0 {
		return true
	}
	firstEnd := left[0].end
	for _, a := range left {
		firstEnd = min(firstEnd, a.end)
	}
	for i, a := range left {
		next := &model{m.most, maps.Clone(m.values), maps.Clone(m.ever)}
		if a.begin < firstEnd && ought(next, a) == a.answer && inOrder(next, slices.Delete(slices.Clone(left), i, i+1)) {
			return true
		}
	}
	return false
}

// P20.2: what goroutines ask at once is done as if each were done at one moment between its beginning and its end.
func TestEachIsDoneAtOneMoment(t *testing.T) {
	r := rand.New(rand.NewSource(202))
	for round := range 600 {
		most := 1 + round%3
		x := made[int](t, 1+round%5, most)
		var lists [4][]ask
		for i := range 16 {
			lists[i%4] = append(lists[i%4], ask{what: r.Intn(8), id: api.ID(r.Intn(4)), value: i})
		}
		var moment atomic.Int64
		atOnce(len(lists), func(worker int) {
			for i := range lists[worker] {
				a := &lists[worker][i]
				a.begin = moment.Add(1)
				a.answer = asked(x, *a)
				a.end = moment.Add(1)
			}
		})
		history := slices.Concat(lists[:]...)
		if !inOrder(empty(most), history) {
			t.Fatalf("of most %d there is no order: %+v", most, history)
		}
	}
}

// P20.2: Where may be asked beside others; what stands there all the while is kept.
func TestWhereBesideOthers(t *testing.T) {
	x := made[int](t, 8, 64)
	for id := range api.ID(20) {
		inserts(t, x, id, 1, api.OK)
	}
	atOnce(6, func(worker int) {
		for i := range 200 {
			id := api.ID(1000*(worker+1) + i)
			if worker%2 == 0 {
				inserts(t, x, id, 2, api.OK)
				removes(t, x, id, api.OK)
				continue
			}
			got := x.Where(func(_ api.ID, v int) bool { return v == 1 })
			if len(got) != 20 || got[0] != 0 || got[19] != 19 || !slices.IsSorted(got) {
				t.Errorf("kept %v", got)
			}
		}
	})
}
