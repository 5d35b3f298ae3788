package locks

import (
	"reflect"
	"slices"
	"testing"

	"furlong/api"
)

// one is who is there, by a plain list: what it took, not in any way made short.
type one struct {
	tx  api.Tx
	ids []int
	all bool
}

// plain is a table as a plain list of who is there, in the row of their Takes.
type plain []one

func (p plain) may(tx api.Tx, ids []int, all bool) bool {
	for _, o := range p {
		if o.tx == tx || o.all || all {
			return false
		}
		for _, id := range ids {
			if slices.Contains(o.ids, id) {
				return false
			}
		}
	}
	return true
}

func (p *plain) take(tx api.Tx, ids []int, all bool) bool {
	if !p.may(tx, ids, all) {
		return false
	}
	*p = append(*p, one{tx, slices.Clone(ids), all})
	return true
}

func (p *plain) free(tx api.Tx) {
	*p = slices.DeleteFunc(*p, func(o one) bool { return o.tx == tx })
}

// holders tells all who hold id: a right list has at most one of them.
func (p plain) holders(id int) []api.Tx {
	var who []api.Tx
	for _, o := range p {
		if o.all || slices.Contains(o.ids, id) {
			who = append(who, o.tx)
		}
	}
	return who
}

func (p plain) all() []api.Tx {
	var row []api.Tx
	for _, o := range p {
		row = append(row, o.tx)
	}
	return row
}

// tx is a transaction's name.
func tx(node, seq int) api.Tx {
	return api.Tx{Node: node, Seq: seq}
}

// a, b, c, d are four that are told apart by node, by number, and by both.
func four() (a, b, c, d api.Tx) {
	return tx(1, 1), tx(1, 2), tx(2, 1), tx(2, 2)
}

// took takes, and fails the test if that is refused.
func took(t *testing.T, table *Table, tx api.Tx, ids []int, all bool) {
	t.Helper()
	if !table.Take(tx, ids, all) {
		t.Fatalf("P13.1: Take(%v, %v, %v) is false", tx, ids, all)
	}
}

// refused takes, and fails the test if that is not refused or changes the table.
func refused(t *testing.T, table *Table, tx api.Tx, ids []int, all bool) {
	t.Helper()
	row, who := table.All(), look(table, ids)
	if table.Take(tx, ids, all) {
		t.Fatalf("P13.1: Take(%v, %v, %v) of %v is true", tx, ids, all, row)
	}
	if now := table.All(); !slices.Equal(now, row) {
		t.Fatalf("P13.1: a false Take(%v, %v, %v) changes who is there: %v, want %v", tx, ids, all, now, row)
	}
	if now := look(table, ids); !reflect.DeepEqual(now, who) {
		t.Fatalf("P13.1: a false Take(%v, %v, %v) changes the holders: %v, want %v", tx, ids, all, now, who)
	}
}

// answer is Holder's of an id.
type answer struct {
	id int
	tx api.Tx
	is bool
}

// look tells Holder's answers of ids, and of some beside them.
func look(table *Table, ids []int) []answer {
	var all []answer
	for _, id := range append([]int{-1, 0, 1, 2, 3, 4, 5, 6, 7, 8, 9, 99, api.MaxId, api.MaxId + 1}, ids...) {
		tx, is := table.Holder(id)
		all = append(all, answer{id, tx, is})
	}
	return all
}

// holds fails the test if Holder(id) is not tx.
func holds(t *testing.T, table *Table, tx api.Tx, ids ...int) {
	t.Helper()
	for _, id := range ids {
		if got, is := table.Holder(id); !is || got != tx {
			t.Fatalf("P13.1: Holder(%d) is %v, %v; want %v", id, got, is, tx)
		}
	}
}

// nobody fails the test if Holder(id) is one, or names one beside the false.
func nobody(t *testing.T, table *Table, ids ...int) {
	t.Helper()
	for _, id := range ids {
		if got, is := table.Holder(id); is || got != (api.Tx{}) {
			t.Fatalf("P13.1: Holder(%d) is %v, %v; want nobody", id, got, is)
		}
	}
}

// there fails the test if All is not row.
func there(t *testing.T, table *Table, row ...api.Tx) {
	t.Helper()
	if got := table.All(); !slices.Equal(got, row) {
		t.Fatalf("P13.1: All() is %v, want %v", got, row)
	}
}
