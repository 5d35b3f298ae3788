package index

import (
	"reflect"
	"slices"
	"sync"
	"testing"

	"furlong/api"
)

// spoil writes over a list and over all room behind it.
func spoil(ids []int) {
	room := ids[:cap(ids)]
	for i := range room {
		room[i] = -77
	}
}

// answers asks each call that answers a list.
func answers(t *testing.T, tree *Tree) [][]int {
	t.Helper()
	var all [][]int
	keep := func(ids []int, e api.Errno) {
		if e != api.OK {
			t.Fatalf("P12.1: refused: %d", e)
		}
		all = append(all, ids)
	}
	for _, b := range []api.Box{allOfGrid(), boxOf(3, 3, 5, 5), placeBox(0, 0), boxOf(far, far, far, far)} {
		keep(tree.Search(b))
	}
	for _, p := range append(cornersOfGrid(), api.Point{X: 4, Y: 4}) {
		keep(tree.Near(p, 3))
		keep(tree.Near(p, api.MaxId))
	}
	return all
}

// TestAnswersShareNothing spoils each answer in its turn, and looks at the others and at the tree.
func TestAnswersShareNothing(t *testing.T) {
	for _, n := range sizes() {
		tree, _ := sized(t, n)
		first, second := answers(t, tree), answers(t, tree)
		var kept [][]int
		for _, ids := range second {
			kept = append(kept, slices.Clone(ids))
		}
		for i := range first {
			spoil(first[i])
			for j := i + 1; j < len(first); j++ {
				if !slices.Equal(first[j], kept[j]) {
					t.Fatalf("R4: of %d items: answers %d and %d share memory", n, i, j)
				}
			}
		}
		for i := range second {
			if !slices.Equal(second[i], kept[i]) {
				t.Fatalf("R4: of %d items: two answers of one call share memory", n)
			}
			spoil(second[i])
		}
		for i, ids := range answers(t, tree) {
			if !slices.Equal(ids, kept[i]) {
				t.Fatalf("R4: of %d items: behind a change of what was answered, it is %v, not %v", n, ids, kept[i])
			}
		}
		checkUnchanged(t, tree, n)
	}
}

// TestAnswersStay: later calls change nothing of an elder answer.
func TestAnswersStay(t *testing.T) {
	tree, items := sized(t, 200)
	elder, same := answers(t, tree), answers(t, tree)
	for i := range same {
		same[i] = slices.Clone(same[i])
	}
	for _, i := range items {
		if i.Id%3 == 0 {
			remove(t, tree, i.Id)
		} else {
			put(t, tree, i.Id, placeBox(i.Id, 5))
		}
		answers(t, tree)
	}
	if !reflect.DeepEqual(elder, same) {
		t.Error("R4: later calls have changed elder answers")
	}
}

// TestTwoTreesOfTheSameCalls answer alike, also if one is asked between and the other is not, and other trees are built beside.
func TestTwoTreesOfTheSameCalls(t *testing.T) {
	one, two, other := New(), New(), New()
	for n := range 1500 {
		id := 1 + n*n*31%307
		b := boxOf(n%40, n%23, n%40+n%7, n%23+n%3)
		if n%4 == 3 {
			if one.Remove(id) != two.Remove(id) {
				t.Fatalf("R5: call %d: Remove(%d) differs", n, id)
			}
			other.Remove(id + 1)
		} else {
			put(t, one, id, b)
			put(t, other, 1+n, b)
			put(t, two, id, b)
		}
		answers(t, one)
		if one.Height() != two.Height() || one.Len() != two.Len() {
			t.Fatalf("R5: behind call %d: %d high with %d items, and %d with %d", n, one.Height(), one.Len(), two.Height(), two.Len())
		}
		if n%50 == 0 && (!reflect.DeepEqual(one, two) || !reflect.DeepEqual(answers(t, one), answers(t, two))) {
			t.Fatalf("R5: behind call %d two trees of the same calls differ", n)
		}
	}
}

// TestNewIsAlone: what one tree holds no other one does.
func TestNewIsAlone(t *testing.T) {
	one := treeOf(t, knownItems())
	two := New()
	checkEmpty(t, two)
	put(t, two, 5, placeBox(70, 70))
	checkKnown(t, one)
	remove(t, one, 5)
	checkSearch(t, two, allOfGrid(), []int{5})
}

// TestAskingChangesNothing: Search, Near, Len and Height.
func TestAskingChangesNothing(t *testing.T) {
	for _, n := range sizes() {
		tree, _ := sized(t, n)
		for range 3 {
			answers(t, tree)
			tree.Len()
			tree.Height()
		}
		checkUnchanged(t, tree, n)
	}
}

// TestAtOneTime: trees of several goroutines.
func TestAtOneTime(t *testing.T) {
	var all sync.WaitGroup
	trees := make([]*Tree, 8)
	for g := range trees {
		all.Go(func() {
			trees[g] = New()
			for n := range 300 {
				trees[g].Put(api.Item{Id: 1 + n%100, Box: boxOf(n%9, n%7, n%9+1, n%7+1)})
				trees[g].Near(api.Point{X: n, Y: n}, 5)
				trees[g].Search(boxOf(0, 0, n, n))
				if n%5 == 0 {
					trees[g].Remove(1 + n%50)
				}
			}
		})
	}
	all.Wait()
	for _, tree := range trees[1:] {
		if !reflect.DeepEqual(tree, trees[0]) {
			t.Fatal("R5: trees of several goroutines differ")
		}
	}
}
