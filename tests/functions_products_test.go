package tests

import (
	"fmt"
	"slices"
	"testing"

	"loop.example/scottdomains/impl"
)

// stable reports whether a function has for the meet of each two bounded elements the meet of what it has for both.
func (h hom) stable(f []int) bool {
	for x := range f {
		for y := range f {
			if h.a.bounded(x, y) && f[h.a.meet(x, y)] != h.b.meet(f[x], f[y]) {
				return false
			}
		}
	}
	return true
}

// P33: against the definition, and for each two elements with a join.
func TestFunStable(t *testing.T) {
	some, none := 0, 0
	for _, h := range homs(t) {
		for _, f := range h.funs {
			got := impl.FunStable(h.d, h.e, f)
			if got != h.stable(f) {
				t.Errorf("%s: FunStable of %v = %v", h.name, f, got)
			}
			if !got {
				none++
				continue
			}
			some++
			for x := range f {
				for y := range f {
					if impl.OrderJoin(h.d, x, y) >= 0 && f[impl.OrderMeet(h.d, x, y)] != impl.OrderMeet(h.e, f[x], f[y]) {
						t.Errorf("%s: %v does not keep the meet of %d and %d", h.name, f, x, y)
					}
				}
			}
		}
	}
	if some < 500 || none < 50 {
		t.Errorf("%d stable functions, %d others", some, none)
	}
}

// P33: meets of elements that are not bounded need not be kept.
func TestFunStableOfNamedFunctions(t *testing.T) {
	square, _ := impl.DomainProduct(flat(1), flat(1))
	truths, _ := impl.DomainProduct(flat(2), flat(2))
	parallel := []int{0, 0, 2, 0, 1, 2, 2, 2, 2} // 2 if one part is 2, and 1 if both are 1
	left := []int{0, 0, 0, 0, 1, 2, 2, 2, 2}     // 2 if the first part is, and the second part if that is 1
	gustave := func() []int {                    // stable, though it needs no part first
		list := make([]int, 27)
		for i := range list {
			x, y, z := i/9, i/3%3, i%3
			if x == 2 && y == 1 || y == 2 && z == 1 || z == 2 && x == 1 {
				list[i] = 1
			}
		}
		return list
	}()
	triple, _ := impl.DomainProduct(truths, flat(2))
	for _, c := range []struct {
		name string
		d, e impl.Order
		f    []int
		want bool
	}{
		{"one of both", square, flat(1), []int{0, 1, 1, 1}, false},
		{"both", square, flat(1), []int{0, 0, 0, 1}, true},
		{"first part", square, flat(1), []int{0, 0, 1, 1}, true},
		{"nothing changed", square, square, []int{0, 1, 2, 3}, true},
		{"for the same element without a bound", flat(2), flat(1), []int{0, 1, 1}, true},
		{"parallel or", truths, flat(2), parallel, false},
		{"left or", truths, flat(2), left, true},
		{"of three", triple, flat(1), gustave, true},
		{"least elements", square, flat(2), []int{0, 0, 0, 0}, true},
		{"one same element", square, flat(2), []int{1, 1, 1, 1}, true},
		{"one element", chain(1), chain(1), []int{0}, true},
		{"chain of 200", chain(200), fallingChain(200), slices.Repeat([]int{100}, 200), true},
	} {
		if !impl.FunMonotone(c.d, c.e, c.f) {
			t.Fatalf("%s: %v is not monotone", c.name, c.f)
		}
		if got := impl.FunStable(c.d, c.e, c.f); got != c.want {
			t.Errorf("%s: FunStable = %v", c.name, got)
		}
	}
}

// P34, P35: for all functions of small domains to products, each one once.
func TestFunPairAndParts(t *testing.T) {
	small := append(smallDomains(2), sample{"flat of 2", flat(2)}, sample{"least is 2", must(t, [][]int{{}, {}, {0, 1}})})
	for _, s := range small {
		for _, r := range small {
			for _, q := range small {
				wantPairs(t, homOf(s, r), homOf(s, q))
			}
		}
	}
}

// wantPairs fails if the functions to a product are not the pairs of functions to both parts.
func wantPairs(t *testing.T, first hom, second hom) {
	t.Helper()
	d, e, f := first.d, first.e, second.e
	product, width := first.b.product(second.b), len(second.b)
	var made [][]int
	for _, one := range first.funs {
		for _, other := range second.funs {
			var want []int
			for i := range one {
				want = append(want, one[i]*width+other[i])
			}
			what := fmt.Sprint(first.name, " and ", second.name, ": of ", one, " and ", other)
			list, ok := impl.FunPair(d, e, f, one, other)
			wantList(t, what, list, ok, want)
			left, right, ok := impl.FunParts(d, e, f, list)
			wantList(t, what, left, ok, one)
			wantList(t, what, right, ok, other)
			made = append(made, list)
		}
	}
	for _, list := range allLists(len(first.a), len(product)) {
		left, right, ok := impl.FunParts(d, e, f, list)
		if !first.a.monotone(product, list) {
			wantNoParts(t, fmt.Sprint(list), d, e, f, list)
			continue
		}
		back, fine := impl.FunPair(d, e, f, left, right)
		wantList(t, fmt.Sprint("FunPair of the parts of ", list), back, ok && fine, list)
	}
	slices.SortFunc(made, slices.Compare[[]int])
	if want := first.a.functions(product); !sameLists(made, want) {
		t.Errorf("%s and %s: pairs %v, want %v", first.name, second.name, made, want)
	}
}

// P34, P35: the projections of a product are the parts of the function that changes nothing.
func TestFunPartsAreProjections(t *testing.T) {
	for _, s := range namedDomains(t) {
		for _, r := range namedDomains(t) {
			product, _ := impl.DomainProduct(s.order, r.order)
			var first, second []int
			for i := range s.order.Up {
				for k := range r.order.Up {
					first, second = append(first, i), append(second, k)
				}
			}
			left, right, ok := impl.FunParts(product, s.order, r.order, identity(len(product.Up)))
			wantList(t, s.name+" by "+r.name+": first part", left, ok, first)
			wantList(t, s.name+" by "+r.name+": second part", right, ok, second)
			list, ok := impl.FunPair(product, s.order, r.order, first, second)
			wantList(t, s.name+" by "+r.name+": FunPair", list, ok, identity(len(product.Up)))
		}
	}
}

// P34, P35: products of just ElementsMax elements, and of more.
func TestFunPairAndPartsLimit(t *testing.T) {
	for _, c := range []struct {
		name string
		e, f impl.Order
		want bool
	}{
		{"10 by 20", chain(10), chain(20), true},
		{"200 by 1", chain(200), chain(1), true},
		{"1 by 200", chain(1), chain(200), true},
		{"2 by 100", flat(1), chain(100), true},
		{"3 by 67", chain(3), chain(67), false},
		{"67 by 3", chain(67), chain(3), false},
		{"200 by 2", chain(200), chain(2), false},
		{"200 by 200", chain(200), chain(200), false},
	} {
		m, k := len(c.e.Up)-1, len(c.f.Up)-1
		pairs := []int{0, m*(k+1) + k}
		list, ok := impl.FunPair(chain(2), c.e, c.f, []int{0, m}, []int{0, k})
		if !c.want {
			wantNoList(t, c.name+": FunPair", list, ok)
			wantNoParts(t, c.name, chain(2), c.e, c.f, pairs)
			wantNoParts(t, c.name, chain(2), c.e, c.f, []int{0, 0})
			continue
		}
		wantList(t, c.name+": FunPair", list, ok, pairs)
		first, second, ok := impl.FunParts(chain(2), c.e, c.f, pairs)
		wantList(t, c.name+": first part", first, ok, []int{0, m})
		wantList(t, c.name+": second part", second, ok, []int{0, k})
		wantNoParts(t, c.name+": past the last pair", chain(2), c.e, c.f, []int{0, (m + 1) * (k + 1)})
	}
}
