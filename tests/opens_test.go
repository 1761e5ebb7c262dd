package tests

import (
	"fmt"
	"slices"
	"testing"

	"loop.example/scottdomains/impl"
)

// The opens that the tests find by the definition are as many as can be counted otherwise.
func TestOpensOfTheTests(t *testing.T) {
	for _, c := range []struct {
		sample sample
		want   int
	}{
		{sample{"one element", chain(1)}, 2},
		{sample{"chain of 9", chain(9)}, 10},
		{sample{"four loose elements", loose(4)}, 16},
		{sample{"nine loose elements", loose(9)}, 512},
		{sample{"flat of 8", flat(8)}, 257},
		{sample{"cube of 3", cube(3)}, 20},
		{sample{"pairs of chains of 3", aboveOf(chain(3)).product(aboveOf(chain(3))).order()}, 20},
	} {
		if p := spaceOf(c.sample); len(p.opens) != c.want {
			t.Errorf("%s: %d opens, want %d", p.name, len(p.opens), c.want)
		}
	}
	for _, s := range nines(t) {
		if len(s.order.Up) != 9 || !aboveOf(s.order).isOrder() {
			t.Errorf("%s is no order of 9 elements", s.name)
		}
	}
}

// P58: against the definition.
func TestOpens(t *testing.T) {
	for _, p := range spaces(t) {
		sets, ok := impl.Opens(p.d)
		wantList(t, p.name+": Opens", sets, ok, p.opens)
	}
}

// P58: orders whose opens are known; the first one is always the empty set, and the last one that of all elements.
func TestOpensOfNamedOrders(t *testing.T) {
	for _, c := range []struct {
		name string
		d    impl.Order
		want []int
	}{
		{"one element", chain(1), []int{0, 1}},
		{"chain of 2", chain(2), []int{0, 2, 3}},
		{"falling chain of 2", fallingChain(2), []int{0, 1, 3}},
		{"two loose elements", loose(2), []int{0, 1, 2, 3}},
		{"flat of 1", flat(1), []int{0, 2, 3}},
		{"flat of 2", flat(2), []int{0, 2, 4, 6, 7}},
		{"diamond", must(t, [][]int{{1, 2}, {3}, {3}, {}}), []int{0, 8, 10, 12, 14, 15}},
		{"two least below one", must(t, [][]int{{2}, {2}, {}}), []int{0, 4, 5, 6, 7}},
		{"zigzag", must(t, [][]int{{2}, {2, 3}, {}, {}}), []int{0, 4, 5, 8, 12, 13, 14, 15}},
		{"two below two", must(t, [][]int{{2, 3}, {2, 3}, {}, {}}), []int{0, 4, 8, 12, 13, 14, 15}},
		{"two parts", must(t, [][]int{{1}, {}, {}}), []int{0, 2, 3, 4, 6, 7}},
		{"chain of 9", chain(9), []int{0, 256, 384, 448, 480, 496, 504, 508, 510, 511}},
		{"falling chain of 9", fallingChain(9), []int{0, 1, 3, 7, 15, 31, 63, 127, 255, 511}},
	} {
		sets, ok := impl.Opens(c.d)
		wantList(t, c.name+": Opens", sets, ok, c.want)
	}
	sets, ok := impl.Opens(loose(9))
	wantList(t, "nine loose elements: Opens", sets, ok, identity(512))
}

// P58: unions and intersections of two are among them, and the order comes back from them.
func TestOpensAreClosed(t *testing.T) {
	for _, p := range spaces(t) {
		sets, ok := impl.Opens(p.d)
		if !ok || len(sets) < 2 || sets[0] != 0 || sets[len(sets)-1] != p.whole() {
			t.Errorf("%s: Opens = %v, %v", p.name, sets, ok)
		}
		among := make([]bool, 1<<len(p.a))
		for _, u := range sets {
			among[u] = true
		}
		for _, u := range sets {
			for _, v := range sets {
				if !among[u&v] || !among[u|v] {
					t.Fatalf("%s: the intersection or the union of %d and %d is none of %v", p.name, u, v, sets)
				}
			}
		}
		d, ok := impl.OpenOrder(len(p.a), sets)
		if !ok || !sameLists(d.Up, p.d.Up) {
			t.Errorf("%s: OpenOrder of Opens = %v, %v", p.name, d.Up, ok)
		}
	}
}

// P59: against the definition, for each set.
func TestOpenInner(t *testing.T) {
	for _, p := range spaces(t) {
		for set := 0; set <= p.whole(); set += 1 + p.whole()/100 {
			inner, ok := impl.OpenInner(p.d, set)
			wantIndex(t, fmt.Sprint(p.name, ": OpenInner of ", set), inner, ok, p.inner(set))
		}
	}
}

// P59: it is open, within the set, and its own inner set; each open within the set is within it.
func TestOpenInnerIsTheGreatest(t *testing.T) {
	for _, p := range spaces(t) {
		opens, _ := impl.Opens(p.d)
		for set := p.whole(); set >= 0; set -= 1 + p.whole()/60 {
			inner, ok := impl.OpenInner(p.d, set)
			again, fine := impl.OpenInner(p.d, inner)
			if !ok || !fine || !slices.Contains(opens, inner) || !inside(inner, set) || again != inner {
				t.Errorf("%s: OpenInner of %d = %d, %v, and of this %d, %v", p.name, set, inner, ok, again, fine)
			}
			for _, u := range opens {
				if inside(u, set) && !inside(u, inner) {
					t.Errorf("%s: OpenInner of %d = %d, but %d is open", p.name, set, inner, u)
				}
			}
		}
	}
}

// P59: the empty set, as an argument and as an answer, the set of all elements, and sets with some of their elements taken away.
func TestOpenInnerOfNamedOrders(t *testing.T) {
	diamond := must(t, [][]int{{1, 2}, {3}, {3}, {}})
	for _, c := range []struct {
		name string
		d    impl.Order
		set  int
		want int
	}{
		{"one element, none", chain(1), 0, 0},
		{"one element, all", chain(1), 1, 1},
		{"chain of 3, all but the greatest", chain(3), 3, 0},
		{"chain of 3, both ends", chain(3), 5, 4},
		{"chain of 9, all but the greatest", chain(9), 255, 0},
		{"chain of 9, all but one in the middle", chain(9), 511 - 16, 480},
		{"falling chain of 9, all but the greatest", fallingChain(9), 510, 0},
		{"falling chain of 9, all but the least", fallingChain(9), 255, 255},
		{"nine loose elements, some", loose(9), 341, 341},
		{"nine loose elements, all", loose(9), 511, 511},
		{"flat of 8, the least one alone", flat(8), 1, 0},
		{"flat of 8, all but one", flat(8), 511 - 32, 510 - 32},
		{"diamond, all but the greatest", diamond, 7, 0},
		{"diamond, the least one, one side and the greatest", diamond, 11, 10},
		{"two least below one, both", must(t, [][]int{{2}, {2}, {}}), 3, 0},
	} {
		inner, ok := impl.OpenInner(c.d, c.set)
		wantIndex(t, c.name+": OpenInner", inner, ok, c.want)
	}
	for _, p := range spaces(t) {
		inner, ok := impl.OpenInner(p.d, 0)
		wantIndex(t, p.name+": OpenInner of the empty set", inner, ok, 0)
		inner, ok = impl.OpenInner(p.d, p.whole())
		wantIndex(t, p.name+": OpenInner of all elements", inner, ok, p.whole())
	}
}

// P66: against the definition, for each open set.
func TestOpenCompact(t *testing.T) {
	for _, p := range spaces(t) {
		for i := 0; i < len(p.opens); i += 1 + len(p.opens)/100 {
			set := p.opens[i]
			list, ok := impl.OpenCompact(p.d, set)
			wantList(t, fmt.Sprint(p.name, ": OpenCompact of ", set), list, ok, p.compact(set))
		}
	}
}

// P66: an element is in the set exactly if it is above one of them, and no two are below each other.
func TestOpenCompactMakesTheSet(t *testing.T) {
	for _, p := range spaces(t) {
		for i := len(p.opens) - 1; i >= 0; i -= 1 + len(p.opens)/50 {
			set := p.opens[i]
			list, ok := impl.OpenCompact(p.d, set)
			if !ok {
				t.Errorf("%s: OpenCompact of %d failed", p.name, set)
			}
			made := 0
			for _, low := range list {
				made |= p.a.upperClosure(1 << low)
				for _, other := range list {
					if low != other && impl.OrderBelow(p.d, low, other) {
						t.Errorf("%s: OpenCompact of %d = %v, but %d is below %d", p.name, set, list, low, other)
					}
				}
			}
			if made != set {
				t.Errorf("%s: OpenCompact of %d = %v, which make %d", p.name, set, list, made)
			}
		}
	}
}

// P66: the empty set has none, and that of all elements those with nothing below.
func TestOpenCompactOfNamedOrders(t *testing.T) {
	diamond := must(t, [][]int{{1, 2}, {3}, {3}, {}})
	for _, c := range []struct {
		name string
		d    impl.Order
		set  int
		want []int
	}{
		{"one element, none", chain(1), 0, nil},
		{"one element, all", chain(1), 1, []int{0}},
		{"chain of 9, none", chain(9), 0, nil},
		{"chain of 9, all", chain(9), 511, []int{0}},
		{"falling chain of 9, all", fallingChain(9), 511, []int{8}},
		{"falling chain of 9, the greatest ones", fallingChain(9), 7, []int{2}},
		{"nine loose elements, none", loose(9), 0, nil},
		{"nine loose elements, all", loose(9), 511, identity(9)},
		{"nine loose elements, some", loose(9), 257, []int{0, 8}},
		{"flat of 8, all but the least one", flat(8), 510, []int{1, 2, 3, 4, 5, 6, 7, 8}},
		{"diamond, both sides", diamond, 14, []int{1, 2}},
		{"diamond, one side", diamond, 12, []int{2}},
		{"two least below one, all", must(t, [][]int{{2}, {2}, {}}), 7, []int{0, 1}},
		{"two least below one, one of both", must(t, [][]int{{2}, {2}, {}}), 6, []int{1}},
		{"zigzag, all but one", must(t, [][]int{{2}, {2, 3}, {}, {}}), 13, []int{0, 3}},
	} {
		list, ok := impl.OpenCompact(c.d, c.set)
		wantList(t, c.name+": OpenCompact", list, ok, c.want)
	}
	for _, p := range spaces(t) {
		list, ok := impl.OpenCompact(p.d, 0)
		wantList(t, p.name+": OpenCompact of the empty set", list, ok, nil)
	}
}
