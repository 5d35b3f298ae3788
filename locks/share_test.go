package locks

import (
	"slices"
	"testing"

	"furlong/api"
)

// roomy tells ids with spare room behind them, and all of it.
func roomy(ids ...int) (short, whole []int) {
	whole = append(slices.Clone(ids), 1000, 1001, 1002, 1003)
	return whole[:len(ids)], whole
}

// TestTakeKeepsNoIds: ids that are written over behind a Take are held as they were.
func TestTakeKeepsNoIds(t *testing.T) {
	a, b, c, d := four()
	table := New()
	ids, whole := roomy(1, 2, 3)
	took(t, table, a, ids, false)
	for i := range whole {
		whole[i] = 50 + i
	}
	holds(t, table, a, 1, 2, 3)
	nobody(t, table, 50, 51, 52, 53, 54, 55, 56)
	took(t, table, b, []int{50, 51}, false)
	table.Free(a)
	nobody(t, table, 1, 2, 3)
	holds(t, table, b, 50, 51)
	took(t, table, c, []int{1, 2, 3}, false)
	there(t, table, b, c)
	table.Free(b)
	table.Free(c)
	took(t, table, d, ids, true)
	ids[0] = 9
	holds(t, table, d, 1, 9)
}

// TestTakeChangesNoIds: neither a true Take nor a false one writes on ids or behind them.
func TestTakeChangesNoIds(t *testing.T) {
	a, b, _, _ := four()
	table := New()
	ids, whole := roomy(3, 1, 3, 2)
	was := slices.Clone(whole)
	took(t, table, a, ids, false)
	refused := func(x api.Tx, all bool) {
		if table.Take(x, ids, all) {
			t.Fatalf("P13.1: Take(%v, %v, %v) is true", x, ids, all)
		}
	}
	refused(a, false)
	refused(b, false)
	refused(b, true)
	table.Free(a)
	took(t, table, a, ids, true)
	refused(b, true)
	if !slices.Equal(whole, was) {
		t.Errorf("R4: ids are %v, were %v", whole, was)
	}
}

// TestAllSharesNothing: an answer that is written over, in its spare room too, changes no other answer and not the table.
func TestAllSharesNothing(t *testing.T) {
	a, b, c, d := four()
	table := New()
	for i, x := range []api.Tx{a, b, c} {
		took(t, table, x, []int{i}, false)
	}
	first, second := table.All(), table.All()
	first = first[:cap(first)]
	for i := range first {
		first[i] = tx(9, 9)
	}
	if !slices.Equal(second, []api.Tx{a, b, c}) {
		t.Errorf("R4: the other answer is %v", second)
	}
	there(t, table, a, b, c)
	holds(t, table, a, 0)
	second = second[:cap(second)]
	clear(second)
	took(t, table, d, nil, false)
	there(t, table, a, b, c, d)
	for _, x := range []api.Tx{a, b, c, d} {
		table.Free(x)
	}
	took(t, table, a, nil, true)
	whole := table.All()
	whole[0] = b
	there(t, table, a)
	holds(t, table, a, 5)
}
