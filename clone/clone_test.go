package clone

import (
	"reflect"
	"testing"

	"furlong/api"
)

func someFeature() api.Feature {
	return api.Feature{Id: 7, Shape: api.ShapePolygon, Rings: [][]api.Point{{{X: 1, Y: 2}, {X: 3, Y: 4}, {X: 5, Y: 0}}, {{X: 9, Y: 8}, {X: 7, Y: 6}, {X: 5, Y: 5}}}}
}

func someMap() api.Map {
	return api.Map{Epoch: 4, Starts: []int{0, 5, 9}, Owners: []int{2, 0, 1}}
}

func TestFeature(t *testing.T) {
	f := someFeature()
	one, two := Feature(f), Feature(f)
	if !reflect.DeepEqual(one, someFeature()) {
		t.Fatalf("R4: a copy is %v", one)
	}
	one.Rings[0][1].X = 99
	one.Rings[1] = nil
	if !reflect.DeepEqual(f, someFeature()) || !reflect.DeepEqual(two, someFeature()) {
		t.Errorf("R4: a copy shares memory: %v, %v", f, two)
	}
	f.Rings[0][0].Y = 77
	f.Rings[1] = nil
	if !reflect.DeepEqual(two, someFeature()) {
		t.Errorf("R4: a copy shares memory with what it was made of: %v", two)
	}
}

// TestRoom: what is put behind a copy's end is in no other list.
func TestRoom(t *testing.T) {
	room := []api.Point{{X: 1}, {X: 2}, {X: 3}, {X: 4}}
	f := api.Feature{Rings: [][]api.Point{room[:2], room[2:3]}}
	c := Feature(f)
	for _, ring := range c.Rings {
		for i := range ring[:cap(ring)] {
			ring[:cap(ring)][i].X = 50
		}
	}
	if !reflect.DeepEqual(room, []api.Point{{X: 1}, {X: 2}, {X: 3}, {X: 4}}) {
		t.Errorf("R4: a copy's room is another list's: %v", room)
	}
	_ = append(c.Rings[0], api.Point{X: 60})
	if c.Rings[1][0].X != 50 {
		t.Errorf("R4: two rings of a copy share memory: %v", c)
	}
}

func TestMap(t *testing.T) {
	m := someMap()
	one, two := Map(m), Map(m)
	if !reflect.DeepEqual(one, someMap()) {
		t.Fatalf("R4: a copy is %v", one)
	}
	one.Starts[1], one.Owners[1] = 99, 98
	if !reflect.DeepEqual(m, someMap()) || !reflect.DeepEqual(two, someMap()) {
		t.Errorf("R4: a copy shares memory: %v, %v", m, two)
	}
	numbers := []int{0, 1, 2}
	c := Map(api.Map{Starts: numbers[:2], Owners: numbers[1:]})
	c.Starts[1] = 9
	_ = append(c.Starts, 8)
	if c.Owners[0] != 1 || numbers[1] != 1 || numbers[2] != 2 {
		t.Errorf("R4: a copy shares memory: %v, %v", c, numbers)
	}
}

func TestZero(t *testing.T) {
	if f := Feature(api.Feature{}); f.Id != 0 || f.Shape != 0 || len(f.Rings) != 0 {
		t.Errorf("DOC, Words: a copy of no feature is %v", f)
	}
	if m := Map(api.Map{}); m.Epoch != 0 || len(m.Starts) != 0 || len(m.Owners) != 0 {
		t.Errorf("DOC, Words: a copy of no map is %v", m)
	}
}
