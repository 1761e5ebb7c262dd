package tests

import (
	"math"
	"slices"
	"testing"

	"loop.example/scottdomains/impl"
)

// P14: of 0 it is one element, of ElementsMax - 1 it has ElementsMax.
func TestDomainFlat(t *testing.T) {
	for n := range impl.ElementsMax {
		d, ok := impl.DomainFlat(n)
		wantOrder(t, "DomainFlat", d, ok, flat(n))
		if len(d.Up) != n+1 || impl.OrderHeight(d) != min(n+1, 2) {
			t.Errorf("DomainFlat(%d) has %d elements and height %d", n, len(d.Up), impl.OrderHeight(d))
		}
	}
	for _, n := range []int{-1, -2, math.MinInt, impl.ElementsMax, impl.ElementsMax + 1, math.MaxInt} {
		d, ok := impl.DomainFlat(n)
		wantNoOrder(t, "DomainFlat", d, ok)
	}
}

// P14: the flat domain of 0 has just a least element, and may be used like others.
func TestDomainFlatOfNone(t *testing.T) {
	none, ok := impl.DomainFlat(0)
	if !ok || !sameLists(none.Up, [][]int{{0}}) || impl.OrderLeast(none) != 0 || impl.OrderHeight(none) != 1 {
		t.Fatalf("DomainFlat(0) = %v, %v", none.Up, ok)
	}
	lift, ok := impl.DomainLift(none)
	wantOrder(t, "DomainLift", lift, ok, chain(2))
	sum, ok := impl.DomainSum(none, none)
	wantOrder(t, "DomainSum", sum, ok, flat(2))
	cut, ok := impl.DomainCut(none, 0)
	wantOrder(t, "DomainCut", cut, ok, chain(1))
	for _, s := range namedDomains(t) {
		left, ok := impl.DomainProduct(none, s.order)
		wantOrder(t, s.name+": DomainProduct", left, ok, s.order)
		right, ok := impl.DomainProduct(s.order, none)
		wantOrder(t, s.name+": DomainProduct", right, ok, s.order)
		from, ok := impl.DomainFun(none, s.order)
		wantOrder(t, s.name+": DomainFun", from, ok, s.order)
		to, ok := impl.DomainFun(s.order, none)
		wantOrder(t, s.name+": DomainFun", to, ok, chain(1))
	}
}

// P15
func TestDomainLift(t *testing.T) {
	for _, s := range append(namedDomains(t), smallDomains(4)...) {
		d, ok := impl.DomainLift(s.order)
		wantOrder(t, s.name+": DomainLift", d, ok, aboveOf(s.order).lift().order())
		if len(d.Up) != len(s.order.Up)+1 || impl.OrderHeight(d) != impl.OrderHeight(s.order)+1 || impl.OrderLeast(d) != 0 {
			t.Errorf("%s: DomainLift = %v", s.name, d.Up)
		}
		for a := range s.order.Up {
			for b := range s.order.Up {
				if impl.OrderBelow(d, a+1, b+1) != impl.OrderBelow(s.order, a, b) {
					t.Errorf("%s: %d and %d are not as they were", s.name, a, b)
				}
			}
		}
	}
}

// P15: just ElementsMax elements, and one more.
func TestDomainLiftLimit(t *testing.T) {
	d, ok := impl.DomainLift(chain(199))
	wantOrder(t, "DomainLift", d, ok, chain(200))
	d, ok = impl.DomainLift(flat(198))
	wantOrder(t, "DomainLift", d, ok, aboveOf(flat(198)).lift().order())
	for _, e := range []impl.Order{chain(200), fallingChain(200), flat(199)} {
		d, ok = impl.DomainLift(e)
		wantNoOrder(t, "DomainLift", d, ok)
	}
}

// P16
func TestDomainProduct(t *testing.T) {
	all := append(namedDomains(t), smallDomains(3)...)
	for _, s := range all {
		for _, r := range all {
			d, ok := impl.DomainProduct(s.order, r.order)
			what := s.name + " by " + r.name
			wantOrder(t, what, d, ok, aboveOf(s.order).product(aboveOf(r.order)).order())
			if got, want := impl.OrderHeight(d), impl.OrderHeight(s.order)+impl.OrderHeight(r.order)-1; got != want {
				t.Errorf("%s: height %d, want %d", what, got, want)
			}
		}
	}
}

// P16: joins go part by part.
func TestDomainProductJoins(t *testing.T) {
	for _, s := range namedDomains(t) {
		for _, r := range namedDomains(t) {
			d, _ := impl.DomainProduct(s.order, r.order)
			first, second := aboveOf(s.order), aboveOf(r.order)
			width := len(second)
			for a := range d.Up {
				for b := range d.Up {
					want := -1
					one, other := first.join(a/width, b/width), second.join(a%width, b%width)
					if one >= 0 && other >= 0 {
						want = one*width + other
					}
					if got := impl.OrderJoin(d, a, b); got != want {
						t.Errorf("%s by %s: OrderJoin(%d, %d) = %d, want %d", s.name, r.name, a, b, got, want)
					}
				}
			}
		}
	}
}

// P16: just ElementsMax elements, and one more.
func TestDomainProductLimit(t *testing.T) {
	for _, c := range [][2]impl.Order{{chain(10), chain(20)}, {chain(20), fallingChain(10)}, {flat(1), flat(99)}, {chain(200), chain(1)}, {chain(1), flat(199)}, {fallingChain(66), chain(3)}} {
		d, ok := impl.DomainProduct(c[0], c[1])
		wantOrder(t, "DomainProduct", d, ok, aboveOf(c[0]).product(aboveOf(c[1])).order())
	}
	for _, c := range [][2]impl.Order{{chain(3), chain(67)}, {chain(67), chain(3)}, {flat(2), flat(66)}, {chain(200), chain(2)}, {chain(2), chain(200)}, {chain(200), chain(200)}} {
		d, ok := impl.DomainProduct(c[0], c[1])
		wantNoOrder(t, "DomainProduct", d, ok)
	}
}

// P17
func TestDomainSum(t *testing.T) {
	all := append(namedDomains(t), smallDomains(3)...)
	for _, s := range all {
		for _, r := range all {
			d, ok := impl.DomainSum(s.order, r.order)
			what := s.name + " and " + r.name
			wantOrder(t, what, d, ok, aboveOf(s.order).sum(aboveOf(r.order)).order())
			if got, want := impl.OrderHeight(d), max(impl.OrderHeight(s.order), impl.OrderHeight(r.order))+1; got != want {
				t.Errorf("%s: height %d, want %d", what, got, want)
			}
			split := len(s.order.Up)
			for a := 1; a <= split; a++ {
				for b := split + 1; b < len(d.Up); b++ {
					if aboveOf(d).bounded(a, b) {
						t.Errorf("%s: %d and %d are bounded", what, a, b)
					}
				}
			}
		}
	}
}

// P17: just ElementsMax elements, and one more.
func TestDomainSumLimit(t *testing.T) {
	for _, c := range [][2]impl.Order{{chain(198), chain(1)}, {chain(1), fallingChain(198)}, {flat(99), chain(99)}} {
		d, ok := impl.DomainSum(c[0], c[1])
		wantOrder(t, "DomainSum", d, ok, aboveOf(c[0]).sum(aboveOf(c[1])).order())
	}
	for _, c := range [][2]impl.Order{{chain(199), chain(1)}, {chain(1), flat(198)}, {chain(100), chain(100)}, {chain(200), chain(200)}} {
		d, ok := impl.DomainSum(c[0], c[1])
		wantNoOrder(t, "DomainSum", d, ok)
	}
}

// P20
func TestDomainChain(t *testing.T) {
	for n := 1; n <= impl.ElementsMax; n++ {
		d, ok := impl.DomainChain(n)
		wantOrder(t, "DomainChain", d, ok, chain(n))
		if impl.OrderHeight(d) != n {
			t.Errorf("DomainChain(%d) has height %d", n, impl.OrderHeight(d))
		}
		if back, _ := impl.OrderBack(d); n <= 12 && !impl.OrderSame(d, back) {
			t.Errorf("DomainChain(%d) is another one turned round", n)
		}
	}
	for _, n := range []int{0, -1, math.MinInt, impl.ElementsMax + 1, math.MaxInt} {
		d, ok := impl.DomainChain(n)
		wantNoOrder(t, "DomainChain", d, ok)
	}
}

// P21
func TestDomainCut(t *testing.T) {
	for _, s := range append(namedDomains(t), smallDomains(4)...) {
		for top := range s.order.Up {
			d, ok := impl.DomainCut(s.order, top)
			wantOrder(t, s.name+": DomainCut", d, ok, cutOf(s.order, top))
			greatest := slices.Index(belowOf(s.order, top), top)
			for a := range d.Up {
				if !impl.OrderBelow(d, a, greatest) {
					t.Errorf("%s: of %d, %d is not below %d", s.name, top, a, greatest)
				}
				for b := range d.Up {
					if impl.OrderJoin(d, a, b) < 0 {
						t.Errorf("%s: of %d, %d and %d have no join", s.name, top, a, b)
					}
				}
			}
		}
	}
}

// P21: of ElementsMax elements all are left, or some.
func TestDomainCutOfLargeDomains(t *testing.T) {
	for _, s := range []sample{{"chain", chain(200)}, {"falling chain", fallingChain(200)}, {"flat", flat(199)}} {
		for _, top := range []int{0, 1, 63, 64, 128, 198, 199} {
			d, ok := impl.DomainCut(s.order, top)
			wantOrder(t, s.name+": DomainCut", d, ok, cutOf(s.order, top))
		}
	}
}

// P21: no such element.
func TestDomainCutFails(t *testing.T) {
	for _, s := range append(namedDomains(t), sample{"chain of 200", chain(200)}) {
		n := len(s.order.Up)
		for _, top := range []int{-1, n, n + 1, 256, math.MinInt, math.MaxInt} {
			d, ok := impl.DomainCut(s.order, top)
			wantNoOrder(t, s.name+": DomainCut", d, ok)
		}
	}
}

// belowOf returns the elements below an element, ascending.
func belowOf(d impl.Order, top int) []int {
	var list []int
	for i, up := range d.Up {
		if slices.Contains(up, top) {
			list = append(list, i)
		}
	}
	return list
}

// cutOf returns the order of the elements below an element.
func cutOf(d impl.Order, top int) impl.Order {
	a, list := aboveOf(d), belowOf(d, top)
	return madeOf(len(list), func(i int, k int) bool { return a[list[i]][list[k]] }).order()
}
