package store

import (
	"fmt"
	"math/rand"
	"reflect"
	"sync"
	"testing"
	"time"

	"furlong/api"
)

// like tells whether the store answers as the list does.
func (s span) like(r *rand.Rand, store *Store, list *plain) error {
	all := list.all()
	if got := store.All(); !same(got, all) {
		return fmt.Errorf("P14.2: All() is %v, want %v", got, all)
	}
	if got := store.Map(); !reflect.DeepEqual(got, list.m) {
		return fmt.Errorf("P14.2: Map() is %v, want %v", got, list.m)
	}
	if n := store.boxes.Len(); n != len(all) {
		return fmt.Errorf("P14.1: %d boxes are kept of %d features", n, len(all))
	}
	for i := range 8 {
		b := grid
		if i > 0 {
			b = s.box(r)
		}
		if got, e := store.Window(b); e != api.OK || !same(got, list.window(b)) {
			return fmt.Errorf("P14.2: Window(%v) is %v, %d; want %v", b, got, e, list.window(b))
		}
	}
	for i := range 20 {
		id := i - 1
		if i > 10 {
			id = r.Intn(s.ids + 2)
		}
		got, is := store.Get(id)
		if want, there := list.get(id); is != there || !reflect.DeepEqual(got, want) {
			return fmt.Errorf("P14.2: Get(%d) is %v, %v; want %v, %v", id, got, is, want, there)
		}
	}
	return nil
}

// begin tells a store and a list of some node with some map.
func (s span) begin(r *rand.Rand) (*Store, *plain, error) {
	node, m := r.Intn(s.nodes), s.someMap(r)
	store, e := New(node, s.nodes, m)
	if e != api.OK {
		return nil, nil, fmt.Errorf("P14.1: New(%d, %d, %v) is %d", node, s.nodes, m, e)
	}
	return store, plainOf(node, m), nil
}

// walk goes through a row of operations, and holds the store against the list behind each of them.
func (s span) walk(seed int64) error {
	r := rand.New(rand.NewSource(seed))
	store, list, e := s.begin(r)
	if e != nil {
		return e
	}
	for range s.steps {
		ops := s.ops(r)
		was := copyOf(ops)
		if e := store.Apply(ops); e != api.OK {
			return fmt.Errorf("P14.1: Apply(%v) is %d", ops, e)
		}
		if !alike(ops, was) {
			return fmt.Errorf("R4: Apply changes %v to %v", was, ops)
		}
		list.apply(was)
		if e := s.like(r, store, list); e != nil {
			return fmt.Errorf("behind %v: %w", was, e)
		}
	}
	return nil
}

func TestLongRows(t *testing.T) {
	for i, s := range spans {
		for seed := range int64(6) {
			if e := s.walk(seed); e != nil {
				t.Fatalf("span %d, seed %d: %v", i, seed, e)
			}
		}
	}
}

// TestAllNodesTogether (T4): each node holds a feature just if it owns a place of its cover, so none is lost, whatever maps come.
func TestAllNodesTogether(t *testing.T) {
	for i, s := range spans {
		r := rand.New(rand.NewSource(3))
		m := s.someMap(r)
		var all []*Store
		var lists []*plain
		for node := range s.nodes {
			all, lists = append(all, made(t, node, s.nodes, m)), append(lists, plainOf(node, m))
		}
		for range s.steps / 4 {
			ops := s.ops(r)
			for node, store := range all {
				applied(t, store, ops...)
				lists[node].apply(ops)
				if e := s.like(r, store, lists[node]); e != nil {
					t.Fatalf("span %d, node %d: %v", i, node, e)
				}
			}
			for _, op := range ops {
				held := 0
				for _, store := range all {
					if _, is := store.Get(op.Feature.Id); is {
						held++
					}
				}
				if op.Kind == api.OpPut && held == 0 {
					t.Fatalf("T4: span %d: nobody holds %v", i, op.Feature)
				}
			}
		}
	}
}

// TestSameCallsAnswerAlike (R5): two stores of the same calls are one as the other, whatever is asked of one between, and whatever room lists have.
func TestSameCallsAnswerAlike(t *testing.T) {
	for i, s := range spans {
		r, other := rand.New(rand.NewSource(5)), rand.New(rand.NewSource(6))
		m := s.someMap(r)
		first, second := made(t, 0, s.nodes, m), made(t, 0, s.nodes, m)
		for range s.steps {
			ops := s.ops(r)
			applied(t, first, ops...)
			first.All()
			first.Map()
			first.Get(1 + other.Intn(s.ids))
			first.Window(s.box(other))
			first.Apply(nil)
			applied(t, second, copyOf(ops)...)
		}
		b := s.box(r)
		one, _ := first.Window(b)
		two, _ := second.Window(b)
		if !reflect.DeepEqual(first.All(), second.All()) || !reflect.DeepEqual(one, two) || !reflect.DeepEqual(first.Map(), second.Map()) {
			t.Fatalf("R5: span %d: stores of the same calls answer otherwise", i)
		}
		if !reflect.DeepEqual(first, second) {
			t.Fatalf("R5: span %d: stores of the same calls keep other things", i)
		}
	}
}

// TestStoresApart: stores of several goroutines know nothing of one another.
func TestStoresApart(t *testing.T) {
	var all sync.WaitGroup
	for seed := range int64(6) {
		all.Go(func() {
			if e := spans[2].walk(100 + seed); e != nil {
				t.Errorf("R5: %v", e)
			}
		})
	}
	all.Wait()
}

// TestMany: with a feature of each id, each call is done soon.
func TestMany(t *testing.T) {
	begin := time.Now()
	s := made(t, 0, 2, mapOf(1, 0, 0))
	r := rand.New(rand.NewSource(1))
	for id := 1; id <= api.MaxId; id++ {
		f := pointOf(id, r.Intn(half), r.Intn(1<<32))
		if id%2 == 0 {
			f.Rings[0][0].X += half
		}
		applied(t, s, opPut(f))
	}
	if all := len(s.All()); all != api.MaxId {
		t.Fatalf("P14.2: %d are held, want %d", all, api.MaxId)
	}
	for range 1000 {
		x, y := r.Intn(1<<32-cell), r.Intn(1<<32-cell)
		fs, e := s.Window(api.Box{X0: x, Y0: y, X1: x + cell, Y1: y + cell})
		if e != api.OK || len(fs) > 200 {
			t.Fatalf("P14.2: a window of one cell: %d features, %d", len(fs), e)
		}
	}
	applied(t, s, opMap(halves(2)))
	if left := s.All(); len(left) != (api.MaxId+1)/2 || left[1].Id != 3 {
		t.Fatalf("P14.1: %d are held behind a map, want %d", len(left), (api.MaxId+1)/2)
	}
	applied(t, s, opMap(mapOf(3, 0, 1)))
	holds(t, s)
	if d := time.Since(begin); d > 60*time.Second {
		t.Errorf("P14.1: %d features took %v", api.MaxId, d)
	}
}
