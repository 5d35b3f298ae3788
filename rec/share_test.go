package rec

import (
	"sync"
	"testing"
	"unsafe"

	"furlong/api"
)

// spare stands in the room behind a list's end, where no call may write or read.
const spare = -77

// guarded copies a list, with room behind it that is filled.
func guarded[T any](list []T, filled T) []T {
	room := append(append([]T(nil), list...), filled, filled)
	return room[:len(list)]
}

func guardedMap(m api.Map) api.Map {
	return api.Map{Epoch: m.Epoch, Starts: guarded(m.Starts, spare), Owners: guarded(m.Owners, spare)}
}

// guardedRecord is r in memory of its own, with room behind each of its lists.
func guardedRecord(r api.Record) api.Record {
	point := api.Point{X: spare, Y: spare}
	r.Map = guardedMap(r.Map)
	r.Ops = guarded(r.Ops, api.Op{Kind: spare})
	for i := range r.Ops {
		op := &r.Ops[i]
		op.Map = guardedMap(op.Map)
		op.Feature.Rings = guarded(op.Feature.Rings, []api.Point{point})
		for j := range op.Feature.Rings {
			op.Feature.Rings[j] = guarded(op.Feature.Rings[j], point)
		}
	}
	return r
}

// wholeRoom is r with each list as long as its room.
func wholeRoom(r api.Record) api.Record {
	whole := func(m api.Map) api.Map {
		return api.Map{Epoch: m.Epoch, Starts: m.Starts[:cap(m.Starts)], Owners: m.Owners[:cap(m.Owners)]}
	}
	r.Map = whole(r.Map)
	r.Ops = append([]api.Op(nil), r.Ops[:cap(r.Ops)]...)
	for i := range r.Ops {
		op := &r.Ops[i]
		op.Map = whole(op.Map)
		rings := op.Feature.Rings[:cap(op.Feature.Rings)]
		op.Feature.Rings = nil
		for _, ring := range rings {
			op.Feature.Rings = append(op.Feature.Rings, ring[:cap(ring)])
		}
	}
	return r
}

func TestWhatIsHandedInStays(t *testing.T) {
	records := edgeRecords()
	for _, k := range knownRecords() {
		records[k.name] = k.r
	}
	for name, m := range wrongMaps() {
		if len(m.Starts) < 300 {
			records["a map with "+name] = mapRecord(m)
			records["an OpMap with "+name] = work(api.RecBegin, 0, opMap(m), opDelete(1))
		}
	}
	records["one Id twice, others that fall"] = work(api.RecBegin, 0, opDelete(9), opDelete(3), opPut(pointOf(9, 1, 1)), opDelete(2))
	for name, r := range records {
		handed := guardedRecord(r)
		before := shown(wholeRoom(handed))
		Put(handed)
		if after := shown(wholeRoom(handed)); after != before {
			t.Errorf("R4: Put changed %s: %s, not %s", name, after, before)
		}
	}
}

// numberLists are all lists of numbers of r, pointLists all rings.
func numberLists(r api.Record) [][]int {
	lists := [][]int{r.Map.Starts, r.Map.Owners}
	for _, op := range r.Ops {
		lists = append(lists, op.Map.Starts, op.Map.Owners)
	}
	return lists
}

func pointLists(r api.Record) [][]api.Point {
	var lists [][]api.Point
	for _, op := range r.Ops {
		lists = append(lists, op.Feature.Rings...)
	}
	return lists
}

func ringLists(r api.Record) [][][]api.Point {
	var lists [][][]api.Point
	for _, op := range r.Ops {
		lists = append(lists, op.Feature.Rings)
	}
	return lists
}

// checkApart fills each list, with the room behind it, with a mark of its own; another list's mark in it tells of memory that they share.
func checkApart[T any](t *testing.T, what string, lists [][]T, mark func(i int) T, is func(x T, i int) bool) {
	t.Helper()
	for i, list := range lists {
		list = list[:cap(list)]
		for j := range list {
			list[j] = mark(i)
		}
	}
	for i, list := range lists {
		for _, x := range list[:cap(list)] {
			if !is(x, i) {
				t.Errorf("R4: %s: list %d shares memory", what, i)
				return
			}
		}
	}
}

func TestListsOfAnAnswerAreApart(t *testing.T) {
	for name, s := range goodTexts() {
		first, _ := Get(s)
		second, _ := Get(s)
		checkApart(t, name, append(numberLists(first), numberLists(second)...),
			func(i int) int { return i }, func(x, i int) bool { return x == i })
		checkApart(t, name, append(pointLists(first), pointLists(second)...),
			func(i int) api.Point { return api.Point{X: i} }, func(p api.Point, i int) bool { return p.X == i })
		checkApart(t, name, append(ringLists(first), ringLists(second)...),
			func(i int) []api.Point { return make([]api.Point, i) }, func(ring []api.Point, i int) bool { return len(ring) == i })
		checkApart(t, name, [][]api.Op{first.Ops, second.Ops},
			func(i int) api.Op { return api.Op{Kind: i} }, func(op api.Op, i int) bool { return op.Kind == i })
		if third, e := Get(s); textOf(third) != s || e != api.OK {
			t.Errorf("R4, R5: %s: Get behind a spoiled answer: %d", name, e)
		}
	}
}

// TestTextsAreApart clears the memory of texts that were answered and handed in.
func TestTextsAreApart(t *testing.T) {
	for name, s := range goodTexts() {
		handed := []byte(s)
		r, _ := Get(unsafe.String(&handed[0], len(handed)))
		if string(handed) != s {
			t.Errorf("R4: Get changed %s", name)
		}
		clear(handed)
		first, second := put(t, name, r), put(t, name, r)
		clear(unsafe.Slice(unsafe.StringData(first), len(first)))
		if second != s {
			t.Errorf("R4: %s: what is answered shares memory with the text that was handed in, or with another answer", name)
		}
	}
}

// TestTogether calls both from several goroutines.
func TestTogether(t *testing.T) {
	texts := goodTexts()
	records := map[string]api.Record{}
	for name, s := range texts {
		records[name], _ = recordOf(s)
	}
	var all sync.WaitGroup
	for range 8 {
		all.Go(func() {
			for name, s := range texts {
				made, e := Put(records[name])
				back, f := Get(s)
				if made != s || e != api.OK || f != api.OK || shown(back) != shown(records[name]) {
					t.Errorf("R5: %s: %d, %d", name, e, f)
				}
			}
		})
	}
	all.Wait()
}
