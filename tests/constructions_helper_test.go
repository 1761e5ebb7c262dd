package tests

import (
	"fmt"
	"slices"
	"testing"

	"loop.example/scottdomains/impl"
)

// smallDomains returns every domain of at most so many elements.
func smallDomains(most int) []sample {
	var all []sample
	for n := 1; n <= most; n++ {
		for _, d := range allOrders(n) {
			if aboveOf(d).isDomain() {
				all = append(all, sample{fmt.Sprint(d.Up), d})
			}
		}
	}
	return all
}

// namedDomains returns domains that differ in what is bounded, and in the number of the least element.
func namedDomains(t *testing.T) []sample {
	t.Helper()
	return []sample{
		{"one element", chain(1)},
		{"chain of 2", chain(2)},
		{"chain of 4", chain(4)},
		{"falling chain of 3", fallingChain(3)},
		{"flat of 2", flat(2)},
		{"flat of 3", flat(3)},
		{"diamond", must(t, [][]int{{1, 2}, {3}, {3}, {}})},
		{"diamond turned over", must(t, [][]int{{}, {0}, {0}, {1, 2}})},
		{"pentagon", must(t, [][]int{{1, 2}, {3}, {4}, {4}, {}})},
		{"least is 2", must(t, [][]int{{}, {}, {0, 1}})},
		{"lift of flat of 2", must(t, [][]int{{1}, {2, 3}, {}, {}})},
		{"cube of 3 without its greatest element", must(t, [][]int{{1, 2, 4}, {3, 5}, {3, 6}, {}, {5, 6}, {}, {}})},
	}
}

// noDomains returns orders that are valid, but no domains.
func noDomains(t *testing.T) []sample {
	t.Helper()
	return []sample{
		{"two loose elements", loose(2)},
		{"200 loose elements", loose(200)},
		{"two least below one", must(t, [][]int{{2}, {2}, {}})},
		{"bounded without a join", must(t, [][]int{{1, 2}, {3, 4}, {3, 4}, {5}, {5}, {}})},
		{"bounded twice without a join", must(t, [][]int{{1, 2}, {3, 4}, {3, 4}, {}, {}})},
	}
}

// refused returns all that is no domain.
func refused(t *testing.T) []sample {
	t.Helper()
	return append(noDomains(t), invalidOrders()...)
}

// order returns the order of a relation.
func (a above) order() impl.Order {
	up := make([][]int, len(a))
	for i := range a {
		for k := range a {
			if a[i][k] {
				up[i] = append(up[i], k)
			}
		}
	}
	return impl.Order{Up: up}
}

// madeOf returns the relation of n elements that a condition tells.
func madeOf(n int, holds func(i int, k int) bool) above {
	a := make(above, n)
	for i := range n {
		a[i] = make([]bool, n)
		for k := range n {
			a[i][k] = holds(i, k)
		}
	}
	return a
}

func (a above) lift() above {
	return madeOf(len(a)+1, func(i int, k int) bool {
		return i == 0 || k > 0 && a[i-1][k-1]
	})
}

func (a above) product(b above) above {
	return madeOf(len(a)*len(b), func(i int, k int) bool {
		return a[i/len(b)][k/len(b)] && b[i%len(b)][k%len(b)]
	})
}

// sum has the elements by side and number: the new one, those of the first domain, and those of the second one.
func (a above) sum(b above) above {
	sides := [][2]int{{0, 0}}
	for i := range a {
		sides = append(sides, [2]int{1, i})
	}
	for i := range b {
		sides = append(sides, [2]int{2, i})
	}
	return madeOf(len(sides), func(i int, k int) bool {
		one, other := sides[i], sides[k]
		if one[0] == 0 || one[0] != other[0] {
			return one[0] == 0
		}
		return (one[0] == 1 && a[one[1]][other[1]]) || (one[0] == 2 && b[one[1]][other[1]])
	})
}

// monotone reports whether a list is a monotone function to another order.
func (a above) monotone(b above, list []int) bool {
	if len(list) != len(a) {
		return false
	}
	for _, k := range list {
		if k < 0 || k >= len(b) {
			return false
		}
	}
	for i := range a {
		for k := range a {
			if a[i][k] && !b[list[i]][list[k]] {
				return false
			}
		}
	}
	return true
}

// functions returns all monotone functions to another order, sorted, found among all lists.
func (a above) functions(b above) [][]int {
	var all [][]int
	for _, list := range allLists(len(a), len(b)) {
		if a.monotone(b, list) {
			all = append(all, list)
		}
	}
	return all
}

// pointwise returns the order of functions to an order, one above another one if it is for each element.
func (b above) pointwise(lists [][]int) above {
	return madeOf(len(lists), func(i int, k int) bool {
		for m := range lists[i] {
			if !b[lists[i][m]][lists[k][m]] {
				return false
			}
		}
		return true
	})
}

// allLists returns the lists of n numbers from 0 to size - 1, sorted.
func allLists(n int, size int) [][]int {
	all := [][]int{{}}
	for range n {
		var longer [][]int
		for _, list := range all {
			for k := range size {
				longer = append(longer, append(slices.Clone(list), k))
			}
		}
		all = longer
	}
	return all
}

// choose returns the number of ways to choose k of n.
func choose(n int, k int) int {
	ways := 1
	for i := range k {
		ways = ways * (n - i) / (i + 1)
	}
	return ways
}

// repeated returns a list of n equal numbers.
func repeated(k int, n int) []int {
	return slices.Repeat([]int{k}, n)
}

// wantOrder fails if a construction did not give the wanted order, or it is no domain.
func wantOrder(t *testing.T, what string, d impl.Order, ok bool, want impl.Order) {
	t.Helper()
	if !ok || !sameLists(d.Up, want.Up) {
		t.Errorf("%s = %v, %v, want %v", what, d.Up, ok, want.Up)
	}
	if !impl.DomainIs(d) {
		t.Errorf("%s is no domain", what)
	}
}

// wantNoOrder fails if a construction gave an order.
func wantNoOrder(t *testing.T, what string, d impl.Order, ok bool) {
	t.Helper()
	if ok || !isZero(d) {
		t.Errorf("%s = %v, %v, want none", what, d.Up, ok)
	}
}

// wantNoList fails if a function gave a list.
func wantNoList(t *testing.T, what string, list []int, ok bool) {
	t.Helper()
	if ok || len(list) != 0 {
		t.Errorf("%s = %v, %v, want none", what, list, ok)
	}
}

// wantNoFunctions fails if two orders have a function domain, or an index of a list in it.
func wantNoFunctions(t *testing.T, what string, d impl.Order, e impl.Order) {
	t.Helper()
	fun, ok := impl.DomainFun(d, e)
	wantNoOrder(t, what+": DomainFun", fun, ok)
	if funs, fine := impl.DomainFuns(d, e); fine || len(funs) != 0 {
		t.Errorf("%s: DomainFuns = %v, %v", what, funs, fine)
	}
	for _, list := range [][]int{nil, {}, {0}, {0, 0}, repeated(0, len(d.Up))} {
		if at := impl.DomainIndex(d, e, list); at != -1 {
			t.Errorf("%s: DomainIndex of %v = %d", what, list, at)
		}
	}
}
