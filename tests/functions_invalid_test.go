package tests

import (
	"math"
	"testing"

	"loop.example/scottdomains/impl"
)

// P25 to P36: lists that are no monotone function are refused, in each place.
func TestFunctionsOfOtherLists(t *testing.T) {
	for i, s := range namedDomains(t) {
		for k, r := range namedDomains(t) {
			if i%3 != k%3 && i > 0 {
				continue // a third of the pairs is enough
			}
			good := repeated(impl.OrderLeast(r.order), len(s.order.Up))
			for name, bad := range noFunctions(s.order, r.order) {
				wantNoFunction(t, s.name+" to "+r.name+", "+name, s.order, r.order, good, bad)
			}
		}
		for name, bad := range noFunctions(s.order, s.order) {
			wantNoFix(t, s.name+", "+name, s.order, bad)
		}
	}
}

// P25 to P36: the same for as many elements as there may be.
func TestLargeFunctionsOfOtherLists(t *testing.T) {
	for _, c := range [][2]impl.Order{{chain(200), flat(2)}, {flat(2), chain(200)}, {flat(199), chain(3)}, {fallingChain(3), fallingChain(200)}} {
		d, e := c[0], c[1]
		good := repeated(impl.OrderLeast(e), len(d.Up))
		for name, bad := range noFunctions(d, e) {
			wantNoFunction(t, name, d, e, good, bad)
		}
	}
	for name, bad := range noFunctions(chain(200), chain(200)) {
		wantNoFix(t, name, chain(200), bad)
	}
}

// P27: lists that are no monotone function have no fixed point, though some element stays.
func TestFunFixOfOtherLists(t *testing.T) {
	for _, s := range smallDomains(3) {
		a := aboveOf(s.order)
		for _, list := range allLists(len(a), len(a)+1) {
			if !a.monotone(a, list) {
				wantNoFix(t, s.name, s.order, list)
			}
		}
	}
	wantNoFix(t, "around without an end", chain(2), []int{1, 0})
}

// P25 to P36: what is no domain is refused at each place, with lists of all lengths that might fit.
func TestFunctionsOfNoDomains(t *testing.T) {
	for _, s := range refused(t) {
		d, one := s.order, chain(1)
		for _, pair := range [][2]impl.Order{{d, one}, {one, d}, {d, chain(2)}, {chain(2), d}, {d, d}} {
			for _, n := range []int{0, 1, 2, len(d.Up)} {
				list := repeated(0, n)
				wantNoFunction(t, s.name, pair[0], pair[1], list, list)
			}
			for a := -1; a <= 2; a++ {
				step, ok := impl.FunStep(pair[0], pair[1], a, 0)
				wantNoList(t, s.name+": FunStep", step, ok)
				step, ok = impl.FunStep(pair[0], pair[1], 0, a)
				wantNoList(t, s.name+": FunStep", step, ok)
			}
			if n := impl.FunCount(pair[0], pair[1]); n != -1 {
				t.Errorf("%s: FunCount = %d", s.name, n)
			}
		}
		for _, n := range []int{0, 1, 2, len(d.Up)} {
			wantNoFix(t, s.name, d, repeated(0, n))
			wantNoFix(t, s.name, d, identity(n))
		}
	}
}

// P26, P34, P35: what is no domain is refused at each of three places.
func TestFunctionsOfThreeNoDomains(t *testing.T) {
	for _, s := range refused(t) {
		one := chain(1)
		for _, c := range [][3]impl.Order{{s.order, one, one}, {one, s.order, one}, {one, one, s.order}, {s.order, s.order, s.order}} {
			for _, n := range []int{0, 1, 2, len(s.order.Up)} {
				for _, m := range []int{0, 1, 2, len(s.order.Up)} {
					list, ok := impl.FunAfter(c[0], c[1], c[2], repeated(0, n), repeated(0, m))
					wantNoList(t, s.name+": FunAfter", list, ok)
					list, ok = impl.FunPair(c[0], c[1], c[2], repeated(0, n), repeated(0, m))
					wantNoList(t, s.name+": FunPair", list, ok)
				}
				wantNoParts(t, s.name, c[0], c[1], c[2], repeated(0, n))
			}
		}
	}
}

// P26: what is a function of another domain alone is refused.
func TestFunAfterOfOtherDomains(t *testing.T) {
	for _, c := range []struct {
		name          string
		first, second []int
	}{
		{"exchanged", []int{0, 1, 2, 2}, []int{0, 2}},
		{"the first one goes too far", []int{0, 3}, []int{0, 1, 2, 2}},
		{"the second one is too short", []int{0, 2}, []int{0, 1}},
		{"the second one goes too far", []int{0, 2}, []int{0, 1, 4}},
		{"the first one falls", []int{2, 0}, []int{0, 1, 2}},
		{"the second one falls where the first one does not go", []int{0, 0}, []int{0, 2, 1}},
		{"the second one is out of range where the first one does not go", []int{0, 0}, []int{0, 0, 4}},
	} {
		list, ok := impl.FunAfter(chain(2), chain(3), chain(4), c.first, c.second)
		wantNoList(t, c.name, list, ok)
	}
	list, ok := impl.FunAfter(chain(2), chain(3), chain(4), []int{0, 2}, []int{0, 1, 3})
	wantList(t, "of these domains", list, ok, []int{0, 3})
}

// P30: numbers that are no elements.
func TestFunStepOfNoElements(t *testing.T) {
	for _, s := range append(namedDomains(t), sample{"chain of 200", chain(200)}) {
		n := len(s.order.Up)
		for _, bad := range []int{-1, n, n + 1, -64, 256, math.MinInt, math.MaxInt} {
			list, ok := impl.FunStep(s.order, chain(150), bad, 0)
			wantNoList(t, s.name+": FunStep of no element", list, ok)
			list, ok = impl.FunStep(chain(150), s.order, 0, bad)
			wantNoList(t, s.name+": FunStep to no element", list, ok)
			list, ok = impl.FunStep(s.order, s.order, bad, bad)
			wantNoList(t, s.name+": FunStep of none to none", list, ok)
		}
	}
	if list, ok := impl.FunStep(chain(2), chain(3), 1, 2); !ok || list[1] != 2 {
		t.Errorf("FunStep to an element that the first domain has not = %v, %v", list, ok)
	}
	list, ok := impl.FunStep(chain(2), chain(3), 2, 1)
	wantNoList(t, "FunStep of an element that the second domain alone has", list, ok)
}
