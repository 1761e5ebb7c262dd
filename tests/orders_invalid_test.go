package tests

import (
	"math"
	"testing"

	"loop.example/scottdomains/impl"
)

// invalidOrders returns what is no order, by what is wrong with it.
func invalidOrders() []sample {
	lastDown := chain(200)
	lastDown.Up[199] = []int{198, 199}
	gap := chain(200)
	gap.Up[0] = gap.Up[0][:199]
	return []sample{
		{"nil", impl.Order{}},
		{"empty", impl.Order{Up: [][]int{}}},
		{"a nil list", impl.Order{Up: [][]int{nil}}},
		{"an empty list", impl.Order{Up: [][]int{{0, 1}, {}}}},
		{"a nil list behind", impl.Order{Up: [][]int{{0, 1, 2}, {1, 2}, nil}}},
		{"a nil list between", impl.Order{Up: [][]int{{0, 1, 2}, nil, {2}}}},
		{"not itself", impl.Order{Up: [][]int{{1}, {1}}}},
		{"not ascending", impl.Order{Up: [][]int{{1, 0}, {1}}}},
		{"twice", impl.Order{Up: [][]int{{0, 0}}}},
		{"twice behind", impl.Order{Up: [][]int{{0, 1, 1}, {1}}}},
		{"negative", impl.Order{Up: [][]int{{-1, 0}}}},
		{"very negative", impl.Order{Up: [][]int{{math.MinInt, 0}}}},
		{"no such element", impl.Order{Up: [][]int{{0, 1}}}},
		{"no such element by far", impl.Order{Up: [][]int{{0, math.MaxInt}}}},
		{"no such element in the last word", impl.Order{Up: [][]int{{0, 199}, {1}}}},
		{"an element past all words", impl.Order{Up: [][]int{{0, 256}}}},
		{"not closed", impl.Order{Up: [][]int{{0, 1}, {1, 2}, {2}}}},
		{"not closed, against the numbers", impl.Order{Up: [][]int{{0}, {0, 1}, {1, 2}}}},
		{"above each other", impl.Order{Up: [][]int{{0, 1}, {0, 1}}}},
		{"around", impl.Order{Up: [][]int{{0, 1}, {1, 2}, {0, 2}}}},
		{"around and closed", impl.Order{Up: [][]int{{0, 1, 2}, {0, 1, 2}, {0, 1, 2}}}},
		{"201 in a chain", chain(201)},
		{"201 loose", loose(201)},
		{"1000 loose", loose(1000)},
		{"200, the last one above each other", lastDown},
		{"200, not closed", gap},
	}
}

func isZero(d impl.Order) bool {
	return len(d.Up) == 0
}

// P1 to P13: an invalid order is refused by each function.
func TestInvalidOrders(t *testing.T) {
	for _, s := range invalidOrders() {
		d := s.order
		if impl.OrderValid(d) || impl.DomainIs(d) {
			t.Errorf("%s: valid", s.name)
		}
		for a := -1; a <= 3; a++ {
			for b := -1; b <= 3; b++ {
				if impl.OrderBelow(d, a, b) || impl.OrderJoin(d, a, b) != -1 || impl.OrderMeet(d, a, b) != -1 {
					t.Errorf("%s: below, join or meet of %d and %d", s.name, a, b)
				}
			}
		}
		if impl.OrderLeast(d) != -1 || impl.OrderHeight(d) != -1 || impl.OrderWays(d) != -1 {
			t.Errorf("%s: least, height or ways", s.name)
		}
		if covers, ok := impl.OrderCovers(d); ok || len(covers) != 0 {
			t.Errorf("%s: OrderCovers = %v, %v", s.name, covers, ok)
		}
		if back, ok := impl.OrderBack(d); ok || !isZero(back) {
			t.Errorf("%s: OrderBack = %v, %v", s.name, back, ok)
		}
		for _, pair := range [][2]impl.Order{{d, chain(2)}, {chain(2), d}, {d, d}, {d, impl.Order{}}} {
			if maps, ok := impl.OrderMaps(pair[0], pair[1]); ok || len(maps) != 0 || impl.OrderSame(pair[0], pair[1]) {
				t.Errorf("%s: OrderMaps = %v, %v", s.name, maps, ok)
			}
		}
	}
}

// P1, P2, P4, P5: numbers that are no elements of a valid order.
func TestNoSuchElements(t *testing.T) {
	for _, s := range append(namedSamples(t), sample{"chain of 200", chain(200)}) {
		n := len(s.order.Up)
		for _, bad := range []int{-1, n, n + 1, -64, 200, 256, math.MinInt, math.MaxInt} {
			if bad >= 0 && bad < n {
				continue
			}
			for _, pair := range [][2]int{{bad, 0}, {0, bad}, {bad, bad}, {n - 1, bad}} {
				a, b := pair[0], pair[1]
				if impl.OrderBelow(s.order, a, b) {
					t.Errorf("%s: OrderBelow(%d, %d)", s.name, a, b)
				}
				if got := impl.OrderJoin(s.order, a, b); got != -1 {
					t.Errorf("%s: OrderJoin(%d, %d) = %d", s.name, a, b, got)
				}
				if got := impl.OrderMeet(s.order, a, b); got != -1 {
					t.Errorf("%s: OrderMeet(%d, %d) = %d", s.name, a, b, got)
				}
			}
		}
	}
}

// P7: lists of which no order comes.
func TestOrderFromFails(t *testing.T) {
	long := make([][]int, impl.ElementsMax+1)
	around := make([][]int, impl.ElementsMax)
	for i := range around {
		around[i] = []int{(i + 1) % impl.ElementsMax}
	}
	for _, c := range []struct {
		name  string
		lists [][]int
	}{
		{"nil", nil},
		{"no element at all", [][]int{}},
		{"negative", [][]int{{-1}}},
		{"very negative", [][]int{{math.MinInt}}},
		{"no such element", [][]int{{1}}},
		{"no such element behind others", [][]int{{1, 0, 2}, {}}},
		{"no such element by far", [][]int{{}, {math.MaxInt}}},
		{"an element past all words", [][]int{{256}}},
		{"above each other", [][]int{{1}, {0}}},
		{"around", [][]int{{1}, {2}, {0}}},
		{"around behind", [][]int{{1}, {2}, {3}, {1}}},
		{"around through all", around},
		{"one element more than there may be", long},
	} {
		if d, ok := impl.OrderFrom(c.lists); ok || !isZero(d) {
			t.Errorf("%s: OrderFrom = %v, %v", c.name, d.Up, ok)
		}
	}
	if d, ok := impl.OrderFrom(long[:impl.ElementsMax]); !ok || !sameLists(d.Up, loose(impl.ElementsMax).Up) {
		t.Errorf("OrderFrom of as many elements as there may be: %v", ok)
	}
}

// A nil slice and an empty one are equivalent arguments.
func TestNilAndEmptyLists(t *testing.T) {
	with, ok := impl.OrderFrom([][]int{{1}, {}})
	without, fine := impl.OrderFrom([][]int{{1}, nil})
	if !ok || !fine || !sameLists(with.Up, without.Up) {
		t.Errorf("OrderFrom = %v, %v", with.Up, without.Up)
	}
	for _, up := range [][][]int{nil, {}, {nil}, {{}}} {
		if impl.OrderValid(impl.Order{Up: up}) {
			t.Errorf("OrderValid(%v) holds", up)
		}
	}
}
