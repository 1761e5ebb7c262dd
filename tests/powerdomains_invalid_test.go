package tests

import (
	"fmt"
	"math"
	"testing"

	"loop.example/scottdomains/impl"
)

// wantNoPower fails if some function of one domain gives anything for an order and a text.
func wantNoPower(t *testing.T, what string, d impl.Order, kind string) {
	t.Helper()
	sets, ok := impl.PowerSets(d, kind)
	wantNoList(t, what+": PowerSets", sets, ok)
	order, ok := impl.PowerOrder(d, kind)
	wantNoOrder(t, what+": PowerOrder", order, ok)
	ones, ok := impl.PowerOne(d, kind)
	wantNoList(t, what+": PowerOne", ones, ok)
	for a := -1; a <= 3; a++ {
		closed, ok := impl.PowerClose(d, kind, a)
		wantNoIndex(t, what+": PowerClose", closed, ok)
		for b := -1; b <= 3; b++ {
			union, ok := impl.PowerUnion(d, kind, a, b)
			wantNoIndex(t, what+": PowerUnion", union, ok)
			if impl.PowerBelow(d, kind, a, b) {
				t.Errorf("%s: PowerBelow of %d and %d", what, a, b)
			}
		}
	}
}

// wantNoPowerLists fails if PowerMap or PowerExtend gives anything for a list.
func wantNoPowerLists(t *testing.T, what string, d impl.Order, e impl.Order, kind string, list []int) {
	t.Helper()
	got, ok := impl.PowerMap(d, e, kind, list)
	wantNoList(t, fmt.Sprint(what, ": PowerMap of ", list), got, ok)
	got, ok = impl.PowerExtend(d, e, kind, list)
	wantNoList(t, fmt.Sprint(what, ": PowerExtend of ", list), got, ok)
}

// P49 to P56: orders that are no domain, and domains of 8 elements and more.
func TestPowersOfOtherOrders(t *testing.T) {
	for _, s := range noPowers(t) {
		for _, kind := range kinds() {
			wantNoPower(t, s.name+", "+kind, s.order, kind)
		}
	}
}

// P54, P55: the same at each of both places, with lists that might fit.
func TestPowerListsOfOtherOrders(t *testing.T) {
	for _, s := range noPowers(t) {
		for _, kind := range kinds() {
			for _, pair := range [][2]impl.Order{{s.order, chain(1)}, {chain(1), s.order}, {s.order, chain(2)}, {chain(2), s.order}, {s.order, s.order}} {
				for _, n := range []int{0, 1, 2, len(s.order.Up)} {
					wantNoPowerLists(t, s.name+", "+kind, pair[0], pair[1], kind, repeated(0, n))
					wantNoPowerLists(t, s.name+", "+kind, pair[0], pair[1], kind, identity(n))
				}
			}
		}
	}
}

// P49 to P56: texts that are no kind, with domains and with other orders.
func TestPowersOfNoKind(t *testing.T) {
	for _, kind := range noKinds() {
		for _, s := range append(namedDomains(t), sample{"nil", impl.Order{}}, sample{"flat of 7", flat(7)}) {
			what := fmt.Sprintf("%s, %q", s.name, kind)
			wantNoPower(t, what, s.order, kind)
			for _, n := range []int{0, 1, len(s.order.Up)} {
				wantNoPowerLists(t, what, s.order, s.order, kind, repeated(0, n))
				wantNoPowerLists(t, what, s.order, chain(1), kind, repeated(0, n))
			}
		}
	}
}

// P49 to P56: one element fewer than too many succeeds, though it may have more sets than a domain that is refused.
func TestPowersAtTheLimit(t *testing.T) {
	for _, kind := range kinds() {
		if sets, ok := impl.PowerSets(flat(6), kind); !ok || len(sets) < 64 {
			t.Errorf("%s of 7 elements: %d sets, %v", kind, len(sets), ok)
		}
		closed, ok := impl.PowerClose(chain(7), kind, 1<<6)
		if !ok || !in(6, closed) {
			t.Errorf("%s: the closure of the last element is %d, %v", kind, closed, ok)
		}
		closed, ok = impl.PowerClose(chain(7), kind, 1<<7-1)
		wantIndex(t, kind+": PowerClose of all elements", closed, ok, 1<<7-1)
		wantNoPower(t, kind+", chain of 8", chain(8), kind)
		wantNoPower(t, kind+", flat of 7", flat(7), kind)
		list, ok := impl.PowerMap(chain(7), chain(7), kind, identity(7))
		if !ok || len(list) == 0 {
			t.Errorf("%s: PowerMap of 7 elements = %v, %v", kind, list, ok)
		}
		wantNoPowerLists(t, kind, chain(7), chain(8), kind, identity(7))
		wantNoPowerLists(t, kind, chain(8), chain(7), kind, repeated(0, 8))
	}
}

// P51, P56: the empty set, negative numbers, and sets with elements that are none, at each place.
func TestPowersOfNoSets(t *testing.T) {
	for _, s := range append(namedDomains(t), sevens(t)...) {
		all := 1<<len(s.order.Up) - 1
		bad := []int{0, -1, -2, all + 1, all + 2, 2*all + 1, -all, 1 << 7, 1<<7 + 1, 1 << 8, 1 << 32, 1<<32 + 1, 1 << 62, 1<<62 + 1, math.MinInt, math.MinInt + 1, math.MaxInt}
		for _, kind := range kinds() {
			for _, set := range bad {
				what := fmt.Sprint(s.name, ", ", kind, ", ", set)
				closed, ok := impl.PowerClose(s.order, kind, set)
				wantNoIndex(t, what+": PowerClose", closed, ok)
				for _, good := range []int{1, all} {
					if impl.PowerBelow(s.order, kind, set, good) || impl.PowerBelow(s.order, kind, good, set) || impl.PowerBelow(s.order, kind, set, set) {
						t.Errorf("%s: PowerBelow holds beside %d", what, good)
					}
				}
			}
		}
	}
}

// P53: indexes that are none, at each place.
func TestPowerUnionOfNoIndexes(t *testing.T) {
	for _, s := range append(namedDomains(t), sevens(t)...) {
		for _, kind := range kinds() {
			n := len(powerOf(s, kind).sets)
			for _, bad := range []int{-1, -n, n, n + 1, 1 << 7, 200, 1 << 32, 1 << 62, math.MinInt, math.MaxInt} {
				for _, pair := range [][2]int{{bad, 0}, {0, bad}, {bad, bad}, {bad, n - 1}, {n - 1, bad}} {
					at, ok := impl.PowerUnion(s.order, kind, pair[0], pair[1])
					wantNoIndex(t, fmt.Sprint(s.name, ", ", kind, ": PowerUnion of ", pair), at, ok)
				}
			}
			at, ok := impl.PowerUnion(s.order, kind, n-1, n-1)
			wantIndex(t, s.name+", "+kind+": PowerUnion of the last index", at, ok, n-1)
		}
	}
}

// P54: lists that are no monotone function.
func TestPowerMapOfOtherLists(t *testing.T) {
	powerPairs(t, func(p power, q power) {
		for name, bad := range noFunctions(p.d, q.d) {
			list, ok := impl.PowerMap(p.d, q.d, p.kind, bad)
			wantNoList(t, p.name+" to "+q.name+": PowerMap, "+name, list, ok)
		}
	})
	for _, s := range smallDomains(3) {
		p := powerOf(s, "convex")
		for _, f := range allLists(len(p.a), len(p.a)+1) {
			if !p.a.monotone(p.a, f) {
				list, ok := impl.PowerMap(p.d, p.d, p.kind, f)
				wantNoList(t, fmt.Sprint(s.name, ": PowerMap of ", f), list, ok)
			}
		}
	}
}

// P55: lists of another length, nil lists, and lists with indexes that are none.
func TestPowerExtendOfOtherLists(t *testing.T) {
	powerPairs(t, func(p power, q power) {
		n, m := len(p.a), len(q.sets)
		for name, bad := range noLists(n, m) {
			list, ok := impl.PowerExtend(p.d, q.d, p.kind, bad)
			wantNoList(t, p.name+" to "+q.name+": PowerExtend, "+name, list, ok)
		}
		last := repeated(m-1, n)
		list, ok := impl.PowerExtend(p.d, q.d, p.kind, last)
		wantList(t, p.name+" to "+q.name+": PowerExtend of the last index", list, ok, repeated(m-1, len(p.sets)))
	})
}

// P55: a list of as many sets as the first powerdomain has, or of its indexes alone, does not fit.
func TestPowerExtendOfExchangedDomains(t *testing.T) {
	list, ok := impl.PowerExtend(chain(3), chain(1), "convex", repeated(0, 6))
	wantNoList(t, "as long as the sets", list, ok)
	list, ok = impl.PowerExtend(chain(3), chain(2), "lower", []int{0, 1, 2})
	wantNoList(t, "an index of the first powerdomain alone", list, ok)
	list, ok = impl.PowerExtend(chain(2), chain(3), "lower", []int{0, 1, 2})
	wantNoList(t, "as long as the second domain", list, ok)
	list, ok = impl.PowerExtend(chain(2), chain(3), "lower", []int{0, 2})
	wantList(t, "of these domains", list, ok, []int{0, 2})
}
