package tests

import (
	"testing"

	"loop.example/scottdomains/impl"
)

// P15 to P19, P21: what is no domain is refused, on each side.
func TestConstructionsOfNoDomains(t *testing.T) {
	for _, s := range refused(t) {
		d := s.order
		lift, ok := impl.DomainLift(d)
		wantNoOrder(t, s.name+": DomainLift", lift, ok)
		for top := -1; top <= 2; top++ {
			cut, fine := impl.DomainCut(d, top)
			wantNoOrder(t, s.name+": DomainCut", cut, fine)
		}
		for _, pair := range [][2]impl.Order{{d, chain(1)}, {chain(1), d}, {d, chain(2)}, {chain(2), d}, {d, d}} {
			product, fine := impl.DomainProduct(pair[0], pair[1])
			wantNoOrder(t, s.name+": DomainProduct", product, fine)
			sum, fine := impl.DomainSum(pair[0], pair[1])
			wantNoOrder(t, s.name+": DomainSum", sum, fine)
			wantNoFunctions(t, s.name, pair[0], pair[1])
		}
	}
}

// P22, P24: what is no domain is refused, at each of three places, with lists of all lengths that might fit.
func TestCurryOfNoDomains(t *testing.T) {
	for _, s := range refused(t) {
		one := chain(1)
		for _, c := range [][3]impl.Order{{s.order, one, one}, {one, s.order, one}, {one, one, s.order}, {s.order, s.order, s.order}} {
			for _, n := range []int{0, 1, 2, 3, len(s.order.Up)} {
				list, ok := impl.DomainCurry(c[0], c[1], c[2], repeated(0, n))
				wantNoList(t, s.name+": DomainCurry", list, ok)
				list, ok = impl.DomainUncurry(c[0], c[1], c[2], repeated(0, n))
				wantNoList(t, s.name+": DomainUncurry", list, ok)
			}
		}
	}
}
