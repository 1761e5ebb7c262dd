package tests

import (
	"fmt"
	"testing"

	"loop.example/scottdomains/impl"
)

// P61: against the definition.
func TestOpenPoints(t *testing.T) {
	for _, p := range spaces(t) {
		points, ok := impl.OpenPoints(p.d)
		if !ok || len(points) != len(p.a) {
			t.Fatalf("%s: OpenPoints has %d lists, %v", p.name, len(points), ok)
		}
		for k := range p.a {
			wantList(t, fmt.Sprint(p.name, ": OpenPoints at ", k), points[k], ok, p.point(k))
		}
	}
}

// P61: each list is a point, made by its element, and one element is below another one exactly if all opens of its point are of the other one.
func TestOpenPointsAreOfTheirElements(t *testing.T) {
	for _, p := range spaces(t) {
		points, _ := impl.OpenPoints(p.d)
		for i, point := range points {
			k, ok := impl.PointElement(p.d, point)
			if !impl.PointIs(p.d, point) {
				t.Errorf("%s: PointIs does not hold for that of %d", p.name, i)
			}
			wantIndex(t, p.name+": PointElement", k, ok, i)
			for m, other := range points {
				all := true
				for at := range point {
					all = all && point[at] <= other[at]
				}
				if impl.OrderBelow(p.d, i, m) != all {
					t.Errorf("%s: %d below %d is not as their points are", p.name, i, m)
				}
			}
		}
	}
}

// P61: orders whose points are known.
func TestOpenPointsOfNamedOrders(t *testing.T) {
	for _, c := range []struct {
		name string
		d    impl.Order
		want [][]int
	}{
		{"one element", chain(1), [][]int{{0, 1}}},
		{"chain of 2", chain(2), [][]int{{0, 0, 1}, {0, 1, 1}}},
		{"falling chain of 2", fallingChain(2), [][]int{{0, 1, 1}, {0, 0, 1}}},
		{"two loose elements", loose(2), [][]int{{0, 1, 0, 1}, {0, 0, 1, 1}}},
		{"flat of 2", flat(2), [][]int{{0, 0, 0, 0, 1}, {0, 1, 0, 1, 1}, {0, 0, 1, 1, 1}}},
		{"diamond", must(t, [][]int{{1, 2}, {3}, {3}, {}}), [][]int{
			{0, 0, 0, 0, 0, 1}, {0, 0, 1, 0, 1, 1}, {0, 0, 0, 1, 1, 1}, {0, 1, 1, 1, 1, 1},
		}},
	} {
		points, ok := impl.OpenPoints(c.d)
		if !ok || !sameLists(points, c.want) {
			t.Errorf("%s: OpenPoints = %v, %v, want %v", c.name, points, ok, c.want)
		}
	}
}

// P61, P62: against the definition, for lists of 0 and 1 that are points and others.
func TestPointIs(t *testing.T) {
	for _, p := range spaces(t) {
		for _, marks := range p.marks() {
			if got, want := impl.PointIs(p.d, marks), p.isPoint(marks); got != want {
				t.Errorf("%s: PointIs of %v = %v", p.name, marks, got)
			}
		}
	}
}

// P62, P63: each point has its element, which is in each open set exactly if the point has it; a list that is the point of no element has none.
func TestPointElement(t *testing.T) {
	for _, p := range spaces(t) {
		opens, _ := impl.Opens(p.d)
		for _, marks := range p.marks() {
			k, ok := impl.PointElement(p.d, marks)
			if want := p.element(marks); want < 0 {
				wantNoIndex(t, fmt.Sprint(p.name, ": PointElement of ", marks), k, ok)
			} else {
				wantIndex(t, fmt.Sprint(p.name, ": PointElement of ", marks), k, ok, want)
			}
			if impl.PointIs(p.d, marks) != ok {
				t.Errorf("%s: PointElement of %v = %d, %v, but PointIs is not so", p.name, marks, k, ok)
			}
			for i, u := range opens {
				if ok && in(k, u) != (marks[i] == 1) {
					t.Errorf("%s: %d is not in just the opens of %v", p.name, k, marks)
				}
			}
		}
	}
}

// P61, P62: lists of 0 and 1 of which just one condition of a point is broken, on orders where this can be.
func TestPointIsOfOtherLists(t *testing.T) {
	for _, c := range []struct {
		name  string
		d     impl.Order
		marks []int
		want  bool
	}{
		{"one element", chain(1), []int{0, 1}, true},
		{"one element, not the whole set", chain(1), []int{0, 0}, false},
		{"one element, the empty set too", chain(1), []int{1, 1}, false},
		{"one element, exchanged", chain(1), []int{1, 0}, false},
		{"loose, both intersections and unions keep", loose(2), []int{0, 1, 0, 1}, true},
		{"loose, all", loose(2), []int{1, 1, 1, 1}, false},
		{"loose, none", loose(2), []int{0, 0, 0, 0}, false},
		{"loose, not the whole set", loose(2), []int{0, 1, 0, 0}, false},
		{"loose, the empty set too", loose(2), []int{1, 1, 0, 1}, false},
		{"loose, a union of none", loose(2), []int{0, 0, 0, 1}, false},
		{"loose, two without their intersection", loose(2), []int{0, 1, 1, 1}, false},
		{"chain, one without the larger one", chain(3), []int{0, 1, 0, 1}, false},
		{"chain, each larger one", chain(3), []int{0, 0, 1, 1}, true},
		{"chain, all but the empty set", chain(3), []int{0, 1, 1, 1}, true},
		{"flat, one without a larger one", flat(2), []int{0, 1, 0, 0, 1}, false},
		{"flat, a union of none", flat(2), []int{0, 0, 0, 1, 1}, false},
		{"flat, two without their intersection", flat(2), []int{0, 1, 1, 1, 1}, false},
		{"flat, the least element", flat(2), []int{0, 0, 0, 0, 1}, true},
		{"two least below one, a union of none", must(t, [][]int{{2}, {2}, {}}), []int{0, 0, 0, 0, 1}, false},
		{"two least below one, the greatest", must(t, [][]int{{2}, {2}, {}}), []int{0, 1, 1, 1, 1}, true},
		{"two least below one, two without their intersection", must(t, [][]int{{2}, {2}, {}}), []int{0, 0, 1, 1, 1}, false},
	} {
		if got := impl.PointIs(c.d, c.marks); got != c.want {
			t.Errorf("%s: PointIs = %v", c.name, got)
		}
		if k, ok := impl.PointElement(c.d, c.marks); ok != c.want {
			t.Errorf("%s: PointElement = %d, %v", c.name, k, ok)
		}
	}
}

// P61, P62: points of many opens in which one mark alone is another one, each one in turn.
func TestPointIsLooksAtAll(t *testing.T) {
	for _, s := range []sample{{"nine loose elements", loose(9)}, {"flat of 8", flat(8)}, {"cube of 3", cube(3)}} {
		p := spaceOf(s)
		for k := range p.a {
			marks := p.point(k)
			for at := range marks {
				marks[at] = 1 - marks[at]
				if impl.PointIs(p.d, marks) != p.isPoint(marks) {
					t.Errorf("%s: PointIs of the point of %d, changed at %d", p.name, k, at)
				}
				marks[at] = 1 - marks[at]
			}
		}
	}
}
