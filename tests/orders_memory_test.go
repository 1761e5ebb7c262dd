package tests

import (
	"slices"
	"testing"

	"loop.example/scottdomains/impl"
)

// P1 to P13: no function changes its arguments.
func TestOrderArgumentsStay(t *testing.T) {
	for _, s := range append(namedSamples(t), invalidOrders()...) {
		d := s.order
		before := cloneLists(d.Up)
		impl.OrderValid(d)
		impl.OrderBelow(d, 0, 1)
		impl.OrderLeast(d)
		impl.OrderJoin(d, 0, 1)
		impl.OrderMeet(d, 0, 1)
		impl.OrderCovers(d)
		impl.OrderFrom(d.Up)
		impl.OrderBack(d)
		impl.OrderHeight(d)
		impl.DomainIs(d)
		impl.OrderMaps(d, d)
		impl.OrderSame(d, d)
		impl.OrderWays(d)
		if !sameLists(before, d.Up) {
			t.Errorf("%s: became %v", s.name, d.Up)
		}
	}
	lists := [][]int{{2, 1, 1}, {}, {2}}
	if _, ok := impl.OrderFrom(lists); !ok || !sameLists(lists, [][]int{{2, 1, 1}, {}, {2}}) {
		t.Errorf("OrderFrom made %v of its lists", lists)
	}
}

// P6, P7, P8, P11: no result shares memory with an argument or within itself.
func TestOrderResultsAreSeparate(t *testing.T) {
	for _, s := range namedSamples(t) {
		d := s.order
		covers, _ := impl.OrderCovers(d)
		from, _ := impl.OrderFrom(d.Up)
		back, _ := impl.OrderBack(d)
		maps, _ := impl.OrderMaps(d, d)
		wantSeparate(t, s.name+": OrderCovers", append(slices.Clone(d.Up), covers...)...)
		wantSeparate(t, s.name+": OrderFrom", append(slices.Clone(d.Up), from.Up...)...)
		wantSeparate(t, s.name+": OrderBack", append(slices.Clone(d.Up), back.Up...)...)
		wantSeparate(t, s.name+": OrderMaps", append(slices.Clone(d.Up), maps...)...)
	}
}

// P7, P8: the lists of a result may be replaced without a change of the argument.
func TestOrderResultsHaveTheirOwnLists(t *testing.T) {
	for _, s := range namedSamples(t) {
		before := cloneLists(s.order.Up)
		from, _ := impl.OrderFrom(s.order.Up)
		back, _ := impl.OrderBack(s.order)
		covers, _ := impl.OrderCovers(s.order)
		for _, lists := range [][][]int{from.Up, back.Up, covers} {
			for i := range lists {
				lists[i] = []int{-7}
			}
		}
		if !sameLists(s.order.Up, before) {
			t.Errorf("%s: became %v", s.name, s.order.Up)
		}
	}
}

// No state is kept: a call tells the same after the results of others were changed.
func TestOrderCallsKeepNothing(t *testing.T) {
	d := must(t, [][]int{{1, 2}, {3}, {3}, {}})
	for range 2 {
		covers, _ := impl.OrderCovers(d)
		back, _ := impl.OrderBack(d)
		maps, _ := impl.OrderMaps(d, d)
		if !sameLists(covers, [][]int{{1, 2}, {3}, {3}, {}}) || !sameLists(back.Up, [][]int{{0}, {0, 1}, {0, 2}, {0, 1, 2, 3}}) || !sameLists(maps, [][]int{{0, 1, 2, 3}, {0, 2, 1, 3}}) {
			t.Fatalf("covers %v, back %v, maps %v", covers, back.Up, maps)
		}
		covers[0][0], back.Up[3][0], maps[0][0] = 9, 9, 9
	}
}
