package locks

import (
	"fmt"
	"math/rand"
	"reflect"
	"slices"
	"sync"
	"testing"
	"time"

	"furlong/api"
)

// span says how many nodes, numbers and ids a row has, how many ids a Take wants at most, and of how many calls one is a Free, of how many Takes one wants everything.
type span struct {
	nodes, seqs, ids, wants, free, whole, steps int
}

var spans = []span{
	{1, 2, 2, 2, 2, 3, 400},
	{2, 3, 5, 3, 3, 6, 600},
	{3, 4, 20, 4, 3, 12, 600},
	{8, 8, 60, 6, 4, 40, 900},
	{8, 30, 400, 9, 5, 1000, 900},
	{2, 2, 3, 1, 2, 1, 300},
}

// step takes or frees, at random, of the table and of the list.
func (s span) step(r *rand.Rand, table *Table, list *plain) error {
	x := tx(r.Intn(s.nodes), r.Intn(s.seqs))
	if r.Intn(s.free) == 0 {
		table.Free(x)
		list.free(x)
		return nil
	}
	var ids []int
	for range r.Intn(s.wants + 1) {
		ids = append(ids, r.Intn(s.ids)-1)
	}
	all := r.Intn(s.whole) == 0
	if got, want := table.Take(x, ids, all), list.take(x, ids, all); got != want {
		return fmt.Errorf("P13.1: Take(%v, %v, %v) of %v is %v", x, ids, all, *list, got)
	}
	return nil
}

// like tells whether the table answers as the list does.
func (s span) like(table *Table, list plain) error {
	if got, want := table.All(), list.all(); !slices.Equal(got, want) {
		return fmt.Errorf("P13.1: All() is %v, want %v", got, want)
	}
	for id := -3; id < s.ids+2; id++ {
		who := list.holders(id)
		if len(who) > 1 {
			return fmt.Errorf("P13.1: %v hold %d", who, id)
		}
		got, is := table.Holder(id)
		if is != (len(who) == 1) || is && got != who[0] || !is && got != (api.Tx{}) {
			return fmt.Errorf("P13.1: Holder(%d) is %v, %v; want %v", id, got, is, who)
		}
	}
	return nil
}

func TestLongRows(t *testing.T) {
	for i, s := range spans {
		for seed := range int64(20) {
			r := rand.New(rand.NewSource(seed))
			table, list := New(), plain(nil)
			for range s.steps {
				if e := s.step(r, table, &list); e != nil {
					t.Fatalf("span %d, seed %d: %v", i, seed, e)
				}
				if e := s.like(table, list); e != nil {
					t.Fatalf("span %d, seed %d: %v", i, seed, e)
				}
			}
		}
	}
}

// moves are all calls of two transactions with ids of two: those of which all short rows are made.
func moves() []func(*Table, *plain) bool {
	var all []func(*Table, *plain) bool
	for _, x := range []api.Tx{{}, tx(0, 1)} {
		all = append(all, func(table *Table, list *plain) bool {
			table.Free(x)
			list.free(x)
			return true
		})
		for _, ids := range [][]int{nil, {0}, {1}, {0, 1}, {1, 1}} {
			for _, whole := range []bool{false, true} {
				all = append(all, func(table *Table, list *plain) bool {
					return table.Take(x, ids, whole) == list.take(x, ids, whole)
				})
			}
		}
	}
	return all
}

// TestAllShortRows: each row of four calls.
func TestAllShortRows(t *testing.T) {
	all, s := moves(), span{ids: 2}
	rows := 1
	for range 4 {
		rows *= len(all)
	}
	for row := range rows {
		table, list := New(), plain(nil)
		for left := row; left > 0; left /= len(all) {
			if !all[left%len(all)](table, &list) {
				t.Fatalf("P13.1: row %d: Take answers otherwise than a list", row)
			}
		}
		if e := s.like(table, list); e != nil {
			t.Fatalf("row %d: %v", row, e)
		}
	}
}

// TestSameCallsAnswerAlike: two tables of the same calls are one as the other, whatever is asked of one between.
func TestSameCallsAnswerAlike(t *testing.T) {
	for i, s := range spans {
		one, two := rand.New(rand.NewSource(7)), rand.New(rand.NewSource(7))
		first, second := New(), New()
		var list, other plain
		for range s.steps {
			s.step(one, first, &list)
			s.like(first, list)
			s.step(two, second, &other)
		}
		if !reflect.DeepEqual(first.All(), second.All()) || !reflect.DeepEqual(look(first, nil), look(second, nil)) {
			t.Fatalf("R5: span %d: tables of the same calls answer otherwise", i)
		}
	}
}

// TestTablesApart: tables of several goroutines know nothing of one another.
func TestTablesApart(t *testing.T) {
	var all sync.WaitGroup
	for seed := range int64(8) {
		all.Go(func() {
			r, s := rand.New(rand.NewSource(seed)), spans[2]
			table, list := New(), plain(nil)
			for range s.steps {
				if e := s.step(r, table, &list); e != nil {
					t.Errorf("R5: %v", e)
					return
				}
				if e := s.like(table, list); e != nil {
					t.Errorf("R5: %v", e)
					return
				}
			}
		})
	}
	all.Wait()
}

// TestMany: with very many that are there, each call is done soon.
func TestMany(t *testing.T) {
	const many = 50000
	begin := time.Now()
	table := New()
	for i := range many {
		took(t, table, tx(i%8, i), []int{2 * i, 2*i + 1}, false)
	}
	for i := range many {
		refused := table.Take(tx(9, i), []int{-1, 2*i + 1}, false)
		if refused {
			t.Fatalf("P13.1: an id of %d is taken twice", i)
		}
		holds(t, table, tx(i%8, i), 2*i, 2*i+1)
	}
	if len(table.All()) != many {
		t.Fatalf("P13.1: %d are there, want %d", len(table.All()), many)
	}
	for i := range many {
		table.Free(tx(i%8, i))
		nobody(t, table, 2*i, 2*i+1)
	}
	there(t, table)
	if d := time.Since(begin); d > 20*time.Second {
		t.Errorf("P13.1: %d Takes, Holders and Frees took %v", many, d)
	}
}

// TestManyIdsOfOne: one that takes very many ids, most of them again and again.
func TestManyIdsOfOne(t *testing.T) {
	ids := make([]int, 0, 300000)
	for i := range cap(ids) {
		ids = append(ids, i%70000)
	}
	table := New()
	took(t, table, tx(0, 1), ids, false)
	holds(t, table, tx(0, 1), 0, 1, 69999)
	nobody(t, table, 70000, -1)
	refused := table.Take(tx(0, 2), ids, false)
	if refused {
		t.Fatal("P13.1: ids are taken twice")
	}
	table.Free(tx(0, 1))
	nobody(t, table, 0, 1, 69999)
}
