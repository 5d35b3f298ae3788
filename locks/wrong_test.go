package locks

import (
	"reflect"
	"testing"

	"furlong/api"
)

// taken is one Take.
type taken struct {
	tx  api.Tx
	ids []int
	all bool
}

// after tells a table behind takes.
func after(t *testing.T, takes []taken) *Table {
	t.Helper()
	table := New()
	for _, x := range takes {
		took(t, table, x.tx, x.ids, x.all)
	}
	return table
}

// TestTakeIsFalse: each reason by itself, with nothing changed; behind a Free of who is in the way the same Take is true.
func TestTakeIsFalse(t *testing.T) {
	a, b, c, _ := four()
	cases := []struct {
		why   string
		takes []taken
		take  taken
		way   api.Tx
	}{
		{"tx holds an id, and wants another one", []taken{{a, []int{1}, false}}, taken{a, []int{2}, false}, a},
		{"tx holds an id, and wants it again", []taken{{a, []int{1}, false}}, taken{a, []int{1}, false}, a},
		{"tx holds an id, and wants none", []taken{{a, []int{1}, false}}, taken{a, nil, false}, a},
		{"tx holds an id, and wants everything", []taken{{a, []int{1}, false}}, taken{a, nil, true}, a},
		{"tx holds everything, and wants an id", []taken{{a, nil, true}}, taken{a, []int{1}, false}, a},
		{"tx holds everything, and wants no ids", []taken{{a, nil, true}}, taken{a, nil, false}, a},
		{"tx holds everything, and wants it again", []taken{{a, []int{1}, true}}, taken{a, []int{1}, true}, a},
		{"tx is there, and wants an id", []taken{{a, nil, false}}, taken{a, []int{1}, false}, a},
		{"tx is there, and wants no ids", []taken{{a, nil, false}}, taken{a, nil, false}, a},
		{"tx is there, and wants everything", []taken{{a, nil, false}}, taken{a, nil, true}, a},
		{"another one holds everything, an id is wanted", []taken{{b, nil, true}}, taken{a, []int{1}, false}, b},
		{"another one holds everything, no ids are wanted", []taken{{b, nil, true}}, taken{a, nil, false}, b},
		{"another one holds everything, it is wanted", []taken{{b, nil, true}}, taken{a, nil, true}, b},
		{"another one holds everything and ids, others are wanted", []taken{{b, []int{2}, true}}, taken{a, []int{1}, false}, b},
		{"another one holds the only id", []taken{{b, []int{1}, false}}, taken{a, []int{1}, false}, b},
		{"another one holds the first of ids", []taken{{b, []int{1}, false}}, taken{a, []int{1, 2, 3}, false}, b},
		{"another one holds the middle of ids", []taken{{b, []int{2}, false}}, taken{a, []int{1, 2, 3}, false}, b},
		{"another one holds the last of ids", []taken{{b, []int{3}, false}}, taken{a, []int{1, 2, 3}, false}, b},
		{"another one holds the last of its ids", []taken{{c, []int{7}, false}, {b, []int{5, 6, 3}, false}}, taken{a, []int{3, 9}, false}, b},
		{"the first of two holds one of ids", []taken{{b, []int{3}, false}, {c, []int{4}, false}}, taken{a, []int{5, 3}, false}, b},
		{"all, and another one holds an id", []taken{{b, []int{1}, false}}, taken{a, nil, true}, b},
		{"all with other ids, and another one holds an id", []taken{{b, []int{1}, false}}, taken{a, []int{2}, true}, b},
		{"all with an id that another one holds", []taken{{b, []int{1}, false}}, taken{a, []int{1}, true}, b},
		{"all, and another one took nothing but is there", []taken{{b, nil, false}}, taken{a, nil, true}, b},
		{"all with ids, and another one took nothing but is there", []taken{{b, nil, false}}, taken{a, []int{1}, true}, b},
	}
	for _, c := range cases {
		t.Run(c.why, func(t *testing.T) {
			table, twin := after(t, c.takes), after(t, c.takes)
			refused(t, table, c.take.tx, c.take.ids, c.take.all)
			refused(t, table, c.take.tx, c.take.ids, c.take.all)
			if !reflect.DeepEqual(table, twin) {
				t.Fatalf("P13.1: a false Take changes the table")
			}
			table.Free(c.way)
			took(t, table, c.take.tx, c.take.ids, c.take.all)
			for _, id := range c.take.ids {
				holds(t, table, c.take.tx, id)
			}
		})
	}
}

// TestFalseTakeHoldsNone: of the ids of a false Take none is held, those ahead of the one in the way neither.
func TestFalseTakeHoldsNone(t *testing.T) {
	a, b, c, _ := four()
	table := New()
	took(t, table, b, []int{3}, false)
	refused(t, table, a, []int{1, 2, 3, 4}, false)
	nobody(t, table, 1, 2, 4)
	there(t, table, b)
	took(t, table, c, []int{1, 2, 4}, false)
	holds(t, table, c, 1, 2, 4)
	table.Free(a)
	holds(t, table, c, 1, 2, 4)
	holds(t, table, b, 3)
	there(t, table, b, c)
}

// TestFalseTakeOfAllHoldsNothing: it is not there behind it.
func TestFalseTakeOfAllHoldsNothing(t *testing.T) {
	a, b, c, _ := four()
	table := New()
	took(t, table, b, nil, false)
	refused(t, table, a, []int{1}, true)
	nobody(t, table, 1, 2)
	took(t, table, c, []int{1}, false)
	table.Free(b)
	table.Free(c)
	took(t, table, c, nil, true)
	there(t, table, c)
}
