package tests

import (
	"slices"
	"testing"

	"loop.example/scottdomains/impl"
)

// families calls a test for lists of sets, ascending, of a number of elements: all of at most three elements, some of four,
// and for more elements opens of orders, some of these, and some sets made from seeds.
func families(t *testing.T, visit func(n int, sets []int)) {
	t.Helper()
	for n := 1; n <= 4; n++ {
		stride := 1 + 24*(n/4)
		for code := 0; code < 1<<(1<<n); code += stride {
			visit(n, picked(code, identity(1<<n)))
		}
	}
	for i, p := range largeSpaces(t) {
		visit(len(p.a), p.opens)
		visit(len(p.a), p.opens[:len(p.opens)*2/3])
		visit(len(p.a), p.opens[len(p.opens)/3:])
		seed := uint32(i)
		for range 20 {
			var sets []int
			for set := 0; set < 1<<len(p.a); set++ {
				seed = seed*1664525 + 1013904223
				if int(seed>>16)%(1<<len(p.a)) < 4 {
					sets = append(sets, set)
				}
			}
			visit(len(p.a), sets)
		}
	}
}

// P60: against the definition.
func TestOpenOrder(t *testing.T) {
	families(t, func(n int, sets []int) { wantTold(t, n, sets) })
}

// P60: it is valid, and each of the sets is one of its opens.
func TestOpenOrderHasTheSets(t *testing.T) {
	made := 0
	families(t, func(n int, sets []int) {
		d, ok := impl.OpenOrder(n, sets)
		if !ok {
			return
		}
		made++
		opens, fine := impl.Opens(d)
		if !impl.OrderValid(d) || len(d.Up) != n || !fine {
			t.Errorf("OpenOrder of %d and %v = %v, whose opens are %v, %v", n, sets, d.Up, opens, fine)
		}
		for _, set := range sets {
			if !slices.Contains(opens, set) {
				t.Errorf("OpenOrder of %d and %v = %v, in which %d is not open", n, sets, d.Up, set)
			}
		}
	})
	if made < 1000 {
		t.Errorf("only %d lists of sets tell an order", made)
	}
}

// P60: the order of one element is told by each list of sets, the one with no set among them.
func TestOpenOrderOfOneElement(t *testing.T) {
	for _, sets := range [][]int{nil, {}, {0}, {1}, {0, 1}} {
		d, ok := impl.OpenOrder(1, sets)
		if !ok || !sameLists(d.Up, [][]int{{0}}) {
			t.Errorf("OpenOrder of 1 and %v = %v, %v", sets, d.Up, ok)
		}
	}
}

// P60: no set at all, the empty set, the set of all elements and both tell no two elements apart, nor do sets that have both or none of two.
func TestOpenOrderOfNoOrder(t *testing.T) {
	for n := 2; n <= 9; n++ {
		all := 1<<n - 1
		var both []int // all sets that have the elements 0 and 1, or none of both
		for set := 0; set <= all; set++ {
			if in(0, set) == in(1, set) {
				both = append(both, set)
			}
		}
		for _, sets := range [][]int{nil, {}, {0}, {all}, {0, all}, both, both[1:]} {
			d, ok := impl.OpenOrder(n, sets)
			wantNoOrder(t, "OpenOrder", d, ok)
		}
		d, ok := impl.OpenOrder(n, []int{1 << (n - 1)})
		if ok != (n == 2) {
			t.Errorf("OpenOrder of %d and the last element alone = %v, %v", n, d.Up, ok)
		}
	}
}

// P60: sets whose order is known.
func TestOpenOrderOfNamedSets(t *testing.T) {
	for _, c := range []struct {
		name string
		n    int
		sets []int
		want impl.Order
	}{
		{"one of two", 2, []int{2}, chain(2)},
		{"the other one of two", 2, []int{1}, fallingChain(2)},
		{"each one of two alone", 2, []int{1, 2}, loose(2)},
		{"one of two, and the empty set", 2, []int{0, 1}, fallingChain(2)},
		{"one of two, and both", 2, []int{1, 3}, fallingChain(2)},
		{"all sets of two", 2, []int{0, 1, 2, 3}, loose(2)},
		{"two of three", 3, []int{2, 4}, flat(2)},
		{"what is above each one of a diamond", 4, []int{8, 10, 12, 15}, must(t, [][]int{{1, 2}, {3}, {3}, {}})},
		{"both sides of a diamond", 4, []int{10, 12}, must(t, [][]int{{1, 2}, {3}, {3}, {}})},
		{"each one of nine alone", 9, []int{1, 2, 4, 8, 16, 32, 64, 128, 256}, loose(9)},
		{"ever more of nine", 9, []int{256, 384, 448, 480, 496, 504, 508, 510}, chain(9)},
		{"ever more of nine, from the first one on", 9, []int{1, 3, 7, 15, 31, 63, 127, 255}, fallingChain(9)},
	} {
		d, ok := impl.OpenOrder(c.n, c.sets)
		if !ok || !sameLists(d.Up, c.want.Up) {
			t.Errorf("%s: OpenOrder = %v, %v, want %v", c.name, d.Up, ok, c.want.Up)
		}
	}
}
