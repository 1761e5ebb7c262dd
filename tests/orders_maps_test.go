package tests

import (
	"slices"
	"testing"

	"loop.example/scottdomains/impl"
)

// wantMaps fails if the maps of two orders are not the wanted ones.
func wantMaps(t *testing.T, d impl.Order, e impl.Order, want [][]int) {
	t.Helper()
	got, ok := impl.OrderMaps(d, e)
	if !ok || !sameLists(got, want) {
		t.Errorf("OrderMaps(%v, %v) = %v, %v, want %v", d.Up, e.Up, got, ok, want)
	}
	if same := impl.OrderSame(d, e); same != (len(want) > 0) {
		t.Errorf("OrderSame(%v, %v) = %v", d.Up, e.Up, same)
	}
}

// P11, P12: against the definition, for each two orders of at most three elements.
func TestOrderMapsOfSmallOrders(t *testing.T) {
	var all []impl.Order
	for n := 1; n <= 3; n++ {
		all = append(all, allOrders(n)...)
	}
	for _, d := range all {
		for _, e := range all {
			wantMaps(t, d, e, aboveOf(d).maps(aboveOf(e), 200))
		}
	}
}

// P11, P12: each order of four elements against some others.
func TestOrderMapsOfFourElements(t *testing.T) {
	all := allOrders(4)
	for i, d := range all {
		for k := i % 11; k < len(all); k += 11 {
			wantMaps(t, d, all[k], aboveOf(d).maps(aboveOf(all[k]), 200))
		}
	}
}

// P11
func TestOrderMapsKeepAboveBothWays(t *testing.T) {
	for _, s := range samples(t) {
		n := len(s.order.Up)
		names := permutations(n, 50)
		e := renamed(t, s.order, names[len(names)-1])
		maps, ok := impl.OrderMaps(s.order, e)
		if !ok || len(maps) == 0 || !slices.IsSortedFunc(maps, slices.Compare[[]int]) {
			t.Fatalf("%s: OrderMaps = %v, %v", s.name, maps, ok)
		}
		for _, list := range maps {
			if !aboveOf(s.order).keeps(aboveOf(e), list) {
				t.Errorf("%s: OrderMaps has %v", s.name, list)
			}
		}
		if back, fine := impl.OrderMaps(e, s.order); !fine || len(back) != len(maps) {
			t.Errorf("%s: %d maps, %d the other way", s.name, len(maps), len(back))
		}
		if n <= 6 {
			wantMaps(t, s.order, e, aboveOf(s.order).maps(aboveOf(e), 200))
		}
	}
}

// P11: at most 200 maps, those that come first.
func TestOrderMapsLimit(t *testing.T) {
	wantMaps(t, chain(1), chain(1), [][]int{{0}})
	wantMaps(t, loose(5), loose(5), permutations(5, 200))
	wantMaps(t, loose(6), loose(6), permutations(6, 200))
	wantMaps(t, loose(12), loose(12), permutations(12, 200))
	flats := [][]int{}
	for _, list := range permutations(11, 200) {
		one := []int{0}
		for _, k := range list {
			one = append(one, k+1)
		}
		flats = append(flats, one)
	}
	wantMaps(t, flat(11), flat(11), flats)
}

// P11: at most 12 elements, of both.
func TestOrderMapsElementsLimit(t *testing.T) {
	wantMaps(t, chain(12), fallingChain(12), [][]int{{11, 10, 9, 8, 7, 6, 5, 4, 3, 2, 1, 0}})
	for _, c := range [][2]impl.Order{{chain(13), chain(13)}, {chain(13), chain(12)}, {chain(12), chain(13)}, {chain(1), chain(200)}, {chain(200), chain(1)}} {
		if maps, ok := impl.OrderMaps(c[0], c[1]); ok || len(maps) != 0 {
			t.Errorf("OrderMaps of %d and %d elements = %v, %v", len(c[0].Up), len(c[1].Up), maps, ok)
		}
		if impl.OrderSame(c[0], c[1]) {
			t.Errorf("OrderSame of %d and %d elements holds", len(c[0].Up), len(c[1].Up))
		}
	}
}

// P11: orders without a map to each other are no failure.
func TestOrderMapsWithoutMaps(t *testing.T) {
	crown := must(t, [][]int{{6, 7}, {7, 8}, {6, 8}, {9, 10}, {10, 11}, {9, 11}, {}, {}, {}, {}, {}, {}})
	ring := must(t, [][]int{{6, 7}, {7, 8}, {8, 9}, {9, 10}, {10, 11}, {11, 6}, {}, {}, {}, {}, {}, {}})
	wantMaps(t, crown, ring, nil) // each element has as many above and below
	wantMaps(t, chain(3), chain(4), nil)
	wantMaps(t, chain(4), loose(4), nil)
	wantMaps(t, flat(2), must(t, [][]int{{2}, {2}, {}}), nil)
	forks := must(t, [][]int{{4, 5}, {4}, {5}, {}, {}, {3}})
	wantMaps(t, forks, forks, aboveOf(forks).maps(aboveOf(forks), 200))
}

// P11: a search in which the first choices of many elements prove wrong only at the last ones.
func TestOrderMapsWithLateTops(t *testing.T) {
	low := make([][]int, 12)
	high := make([][]int, 12)
	for i := range 10 {
		low[i], high[i] = []int{10}, []int{10}
		if i >= 4 {
			low[i] = []int{11}
		}
		if i < 6 {
			high[i] = []int{11}
		}
	}
	d, e := must(t, low), must(t, high)
	maps, ok := impl.OrderMaps(d, e)
	if !ok || len(maps) != 200 || !slices.Equal(maps[0], []int{6, 7, 8, 9, 0, 1, 2, 3, 4, 5, 10, 11}) {
		t.Errorf("OrderMaps = %v, %v", maps, ok)
	}
}

// P12
func TestOrderSame(t *testing.T) {
	all := samples(t)
	for _, s := range namedSamples(t) {
		n := len(s.order.Up)
		names := permutations(n, 20)
		all = append(all, sample{s.name + " renamed", renamed(t, s.order, names[len(names)-1])})
	}
	pairs := 0
	for _, s := range all {
		for _, r := range all {
			same := impl.OrderSame(s.order, r.order)
			if back := impl.OrderSame(r.order, s.order); back != same {
				t.Errorf("%s, %s: OrderSame = %v, exchanged %v", s.name, r.name, same, back)
			}
			one, _ := impl.OrderBack(s.order)
			other, _ := impl.OrderBack(r.order)
			if turned := impl.OrderSame(one, other); turned != same {
				t.Errorf("%s, %s: OrderSame = %v, turned round %v", s.name, r.name, same, turned)
			}
			if !same {
				continue
			}
			pairs++
			if impl.OrderHeight(s.order) != impl.OrderHeight(r.order) || impl.OrderWays(s.order) != impl.OrderWays(r.order) || impl.DomainIs(s.order) != impl.DomainIs(r.order) {
				t.Errorf("%s, %s: same, but height, ways or domain differ", s.name, r.name)
			}
		}
	}
	if pairs <= len(all) {
		t.Errorf("only %d pairs are the same", pairs)
	}
}
