package locks

import (
	"math"
	"testing"

	"furlong/api"
)

func TestNew(t *testing.T) {
	table := New()
	if table == nil {
		t.Fatal("P13.1: New() is nil")
	}
	there(t, table)
	nobody(t, table, math.MinInt, -1, 0, 1, 2, api.MaxId, api.MaxId+1, math.MaxInt)
	other := New()
	took(t, table, tx(1, 1), []int{1}, false)
	there(t, other)
	nobody(t, other, 1)
}

func TestTakeIds(t *testing.T) {
	a, b, c, d := four()
	table := New()
	took(t, table, a, []int{5, 3}, false)
	took(t, table, b, []int{4}, false)
	took(t, table, c, nil, false)
	took(t, table, d, []int{1, 2, 9}, false)
	holds(t, table, a, 3, 5)
	holds(t, table, b, 4)
	holds(t, table, d, 1, 2, 9)
	nobody(t, table, 0, 6, 7, 8, 10)
	there(t, table, a, b, c, d)
}

func TestTakeEverything(t *testing.T) {
	a, _, _, _ := four()
	for _, ids := range [][]int{nil, {}, {3}, {3, 4, 3}, {-1, api.MaxId + 1}} {
		table := New()
		took(t, table, a, ids, true)
		holds(t, table, a, math.MinInt, -1, 0, 1, 3, 4, api.MaxId, api.MaxId+1, math.MaxInt)
		there(t, table, a)
		table.Free(a)
		nobody(t, table, math.MinInt, -1, 0, 1, 3, 4, api.MaxId, api.MaxId+1, math.MaxInt)
		there(t, table)
	}
}

func TestTakeNothing(t *testing.T) {
	a, b, c, _ := four()
	table := New()
	took(t, table, a, nil, false)
	took(t, table, b, []int{}, false)
	nobody(t, table, 0, 1, 2)
	there(t, table, a, b)
	took(t, table, c, []int{1}, false)
	holds(t, table, c, 1)
	table.Free(a)
	there(t, table, b, c)
}

func TestTakeTwiceTheSameId(t *testing.T) {
	a, b, _, _ := four()
	table := New()
	took(t, table, a, []int{7, 7, 2, 7, 2}, false)
	holds(t, table, a, 2, 7)
	there(t, table, a)
	refused(t, table, b, []int{7, 7}, false)
	table.Free(a)
	nobody(t, table, 2, 7)
	took(t, table, b, []int{2, 2, 7}, false)
	holds(t, table, b, 2, 7)
}

func TestTakeIdsOfAnyNumber(t *testing.T) {
	ids := []int{math.MinInt, -api.MaxId, -1, 0, 1, api.MaxId, api.MaxId + 1, math.MaxInt}
	a, b, _, _ := four()
	table := New()
	took(t, table, a, ids, false)
	holds(t, table, a, ids...)
	nobody(t, table, 2, -2, api.MaxId-1, api.MaxId+2, math.MaxInt-1, math.MinInt+1)
	for _, id := range ids {
		refused(t, table, b, []int{id}, false)
	}
	table.Free(a)
	nobody(t, table, ids...)
}

func TestTakeOfAnyTx(t *testing.T) {
	all := []api.Tx{{}, tx(0, 1), tx(1, 0), tx(-1, -1), tx(math.MinInt, math.MaxInt), tx(math.MaxInt, math.MinInt), tx(api.MaxNodes, api.MaxSeq+1)}
	table := New()
	for i, x := range all {
		took(t, table, x, []int{i}, false)
	}
	there(t, table, all...)
	for i, x := range all {
		holds(t, table, x, i)
		refused(t, table, x, []int{99}, false)
	}
	for i, x := range all {
		table.Free(x)
		nobody(t, table, i)
		there(t, table, all[i+1:]...)
	}
	for _, x := range all {
		took(t, table, x, []int{1}, true)
		holds(t, table, x, 0, 1)
		there(t, table, x)
		table.Free(x)
	}
}

// TestZeroTxHolds: that the zero Tx holds an id is told apart from nobody.
func TestZeroTxHolds(t *testing.T) {
	table := New()
	took(t, table, api.Tx{}, []int{1}, false)
	if x, is := table.Holder(1); x != (api.Tx{}) || !is {
		t.Errorf("P13.1: Holder(1) is %v, %v; want the zero Tx", x, is)
	}
	if x, is := table.Holder(2); x != (api.Tx{}) || is {
		t.Errorf("P13.1: Holder(2) is %v, %v; want nobody", x, is)
	}
	refused(t, table, tx(1, 1), []int{1}, false)
	refused(t, table, tx(1, 1), nil, true)
	there(t, table, api.Tx{})
}

func TestFreeOfOneThatIsNotThere(t *testing.T) {
	a, b, c, d := four()
	table := New()
	table.Free(a)
	there(t, table)
	took(t, table, a, []int{1}, false)
	took(t, table, b, nil, false)
	for _, x := range []api.Tx{c, d, {}, tx(1, 3), tx(1, -1)} {
		table.Free(x)
		there(t, table, a, b)
		holds(t, table, a, 1)
	}
	table.Free(b)
	table.Free(b)
	there(t, table, a)
	holds(t, table, a, 1)
}

// TestFreeOfAnotherOneWhileOneHoldsEverything: it is not there, so that nothing is changed.
func TestFreeOfAnotherOneWhileOneHoldsEverything(t *testing.T) {
	a, b, _, _ := four()
	table := New()
	took(t, table, a, []int{1}, true)
	table.Free(b)
	table.Free(api.Tx{})
	there(t, table, a)
	holds(t, table, a, 1, 2)
	refused(t, table, b, []int{3}, false)
}

func TestFreeOfIds(t *testing.T) {
	a, b, c, _ := four()
	table := New()
	took(t, table, a, []int{1, 2, 3}, false)
	took(t, table, b, []int{4, 5}, false)
	table.Free(a)
	nobody(t, table, 1, 2, 3)
	holds(t, table, b, 4, 5)
	there(t, table, b)
	took(t, table, c, []int{3, 1}, false)
	took(t, table, a, []int{2}, false)
	holds(t, table, c, 1, 3)
	holds(t, table, a, 2)
	holds(t, table, b, 4, 5)
	there(t, table, b, c, a)
}

func TestFreeOfEverything(t *testing.T) {
	a, b, c, _ := four()
	for _, ids := range [][]int{nil, {1, 2}} {
		table := New()
		took(t, table, a, ids, true)
		table.Free(a)
		nobody(t, table, 0, 1, 2)
		there(t, table)
		took(t, table, b, []int{1}, false)
		took(t, table, c, []int{2, 3}, false)
		holds(t, table, b, 1)
		holds(t, table, c, 2, 3)
		nobody(t, table, 4)
		table.Free(b)
		table.Free(c)
		took(t, table, c, nil, true)
		holds(t, table, c, 1, 4)
		there(t, table, c)
	}
}

// TestFreeOfOneThatTookNothing: it is there no more, and in the way of none.
func TestFreeOfOneThatTookNothing(t *testing.T) {
	a, b, _, _ := four()
	table := New()
	took(t, table, a, nil, false)
	table.Free(a)
	there(t, table)
	took(t, table, b, nil, true)
	holds(t, table, b, 1)
	table.Free(b)
	took(t, table, a, []int{1}, false)
	holds(t, table, a, 1)
}

func TestAllInTheRowOfTakes(t *testing.T) {
	a, b, c, d := four()
	table := New()
	took(t, table, d, []int{1}, false)
	took(t, table, b, []int{9}, false)
	took(t, table, c, nil, false)
	took(t, table, a, []int{2}, false)
	there(t, table, d, b, c, a)
	refused(t, table, d, []int{50}, false)
	there(t, table, d, b, c, a)
	table.Free(b)
	there(t, table, d, c, a)
	took(t, table, b, []int{9}, false)
	there(t, table, d, c, a, b)
	table.Free(d)
	took(t, table, d, nil, false)
	there(t, table, c, a, b, d)
	for _, x := range []api.Tx{a, b, c, d} {
		table.Free(x)
	}
	there(t, table)
	took(t, table, b, nil, false)
	took(t, table, a, nil, false)
	there(t, table, b, a)
}

func TestNilTable(t *testing.T) {
	var table *Table
	if table.Take(tx(1, 1), nil, false) || table.Take(tx(1, 1), []int{1}, false) || table.Take(tx(1, 1), nil, true) {
		t.Error("R3: Take of a nil table is true")
	}
	table.Free(tx(1, 1))
	if x, is := table.Holder(1); is || x != (api.Tx{}) {
		t.Errorf("R3: Holder of a nil table is %v, %v", x, is)
	}
	if row := table.All(); row != nil {
		t.Errorf("R3: All of a nil table is %v", row)
	}
}

// TestTableThatNewDidNotMake: its zero value holds nothing, and no call panics of it.
func TestTableThatNewDidNotMake(t *testing.T) {
	a, b, c, _ := four()
	var table Table
	there(t, &table)
	nobody(t, &table, 1)
	table.Free(a)
	took(t, &table, a, []int{1}, false)
	took(t, &table, b, nil, false)
	refused(t, &table, c, []int{1}, false)
	holds(t, &table, a, 1)
	there(t, &table, a, b)
	var whole Table
	took(t, &whole, a, nil, true)
	holds(t, &whole, a, 1)
}
