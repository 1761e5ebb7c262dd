package tests

import (
	"fmt"
	"math"
	"slices"
	"testing"

	"loop.example/scottdomains/impl"
)

// noSets returns numbers that are no set of n elements.
func noSets(n int) []int {
	all := 1<<n - 1
	return []int{
		-1, -2, -all, -all - 1, all + 1, all + 2, 2*all + 1, all + 1<<9, 1 << 9, 1 << 10, 1 << 32, 1<<32 + 1, 1 << 62, 1<<62 + all,
		math.MinInt, math.MinInt + 1, math.MinInt + all, math.MaxInt, math.MaxInt - 1,
	}
}

// wantNoOpen fails if OpenInner or OpenCompact gives anything for a set, or OpenBack for it and a function of an order to this one.
func wantNoOpen(t *testing.T, what string, d impl.Order, set int) {
	t.Helper()
	inner, ok := impl.OpenInner(d, set)
	wantNoIndex(t, fmt.Sprint(what, ": OpenInner of ", set), inner, ok)
	wantNotOpen(t, what, d, set)
}

// wantNotOpen fails if OpenCompact or OpenBack, which ask for an open set, gives anything for a set.
func wantNotOpen(t *testing.T, what string, d impl.Order, set int) {
	t.Helper()
	list, ok := impl.OpenCompact(d, set)
	wantNoList(t, fmt.Sprint(what, ": OpenCompact of ", set), list, ok)
	for _, n := range []int{1, 2, 9} {
		got, fine := impl.OpenBack(loose(n), d, repeated(0, n), set)
		wantNoIndex(t, fmt.Sprint(what, ": OpenBack of ", set), got, fine)
	}
}

// wantNoPoint fails if a list is a point, or is made by an element.
func wantNoPoint(t *testing.T, what string, d impl.Order, list []int) {
	t.Helper()
	if impl.PointIs(d, list) {
		t.Errorf("%s: PointIs of %v", what, list)
	}
	k, ok := impl.PointElement(d, list)
	wantNoIndex(t, fmt.Sprint(what, ": PointElement of ", list), k, ok)
}

// wantNoContinuous fails if OpenBack or OpenContinuous accepts a list as a function of one order to another one.
func wantNoContinuous(t *testing.T, what string, d impl.Order, e impl.Order, list []int) {
	t.Helper()
	for _, set := range []int{0, 1, 2, 1<<min(len(e.Up), 9) - 1} {
		got, ok := impl.OpenBack(d, e, list, set)
		wantNoIndex(t, fmt.Sprint(what, ": OpenBack of ", list, " and ", set), got, ok)
	}
	if impl.OpenContinuous(d, e, list) {
		t.Errorf("%s: OpenContinuous of %v", what, list)
	}
}

// P58 to P63, P66: orders that are invalid, and orders of 10 elements and more, with sets and lists that might fit.
func TestOpensOfOtherOrders(t *testing.T) {
	for _, s := range noOpens(t) {
		n := len(s.order.Up)
		sets, ok := impl.Opens(s.order)
		wantNoList(t, s.name+": Opens", sets, ok)
		points, ok := impl.OpenPoints(s.order)
		if ok || len(points) != 0 {
			t.Errorf("%s: OpenPoints = %v, %v", s.name, points, ok)
		}
		for _, set := range append(noSets(n%10), 0, 1, 2, 3, 1<<(n%60)-1) {
			wantNoOpen(t, s.name, s.order, set)
		}
		for m := range 13 {
			wantNoPoint(t, s.name, s.order, repeated(0, m))
			wantNoPoint(t, s.name, s.order, append([]int{0}, repeated(1, m)...))
			wantNoPoint(t, s.name, s.order, append(repeated(0, m), 1))
		}
	}
}

// P61, P62: what would be the points of an order of 10 elements.
func TestPointsOfTenElements(t *testing.T) {
	for _, s := range tooManyElements(t) {
		if len(s.order.Up) > 10 {
			continue
		}
		p := spaceOf(s)
		for k := range p.a {
			wantNoPoint(t, p.name, p.d, p.point(k))
		}
	}
}

// P64, P65: orders of which no opens are told, at each of both places, with lists that might fit.
func TestOpenFunctionsOfOtherOrders(t *testing.T) {
	for _, s := range noOpens(t) {
		for _, pair := range [][2]impl.Order{{s.order, chain(1)}, {chain(1), s.order}, {s.order, chain(2)}, {chain(2), s.order}, {s.order, s.order}} {
			for _, n := range []int{0, 1, 2, len(s.order.Up)} {
				wantNoContinuous(t, s.name, pair[0], pair[1], repeated(0, n))
				wantNoContinuous(t, s.name, pair[0], pair[1], identity(n))
			}
		}
	}
}

// P58 to P66: nine elements are not too many, and ten are, be they few opens or many.
func TestOpensAtTheLimit(t *testing.T) {
	for _, made := range []func(n int) impl.Order{chain, fallingChain, loose, func(n int) impl.Order { return flat(n - 1) }} {
		for _, n := range []int{9, 10} {
			d := made(n)
			_, opens := impl.Opens(d)
			inner, within := impl.OpenInner(d, 1<<n-1)
			points, all := impl.OpenPoints(d)
			_, compact := impl.OpenCompact(d, 1<<n-1)
			from, first := impl.OpenBack(d, chain(1), repeated(0, n), 1)
			_, second := impl.OpenBack(chain(1), d, []int{n - 1}, 1<<n-1)
			continuous := impl.OpenContinuous(d, d, identity(n))
			for i, ok := range []bool{opens, within, all, compact, first, second, continuous} {
				if ok != (n == 9) {
					t.Errorf("%d elements: call %d gives %v", n, i, ok)
				}
			}
			if n == 9 && (inner != 511 || len(points) != 9 || from != 511 || !impl.PointIs(d, points[8])) {
				t.Errorf("9 elements: %d, %d points, %d", inner, len(points), from)
			}
		}
	}
}

// P59, P64, P66: negative sets, and sets with elements that are none.
func TestOpensOfNoSets(t *testing.T) {
	for _, p := range spaces(t) {
		for _, set := range noSets(len(p.a)) {
			if set < 0 || set > p.whole() {
				wantNoOpen(t, p.name, p.d, set)
			}
		}
	}
}

// P64, P66: sets that are not open.
func TestOpensOfOtherSets(t *testing.T) {
	for _, p := range spaces(t) {
		for set := 0; set <= p.whole(); set += 1 + p.whole()/60 {
			if !p.a.isOpen(set) {
				wantNotOpen(t, p.name, p.d, set)
			}
		}
	}
	for _, s := range []sample{{"chain of 9", chain(9)}, {"flat of 8", flat(8)}, {"two least below one", must(t, [][]int{{2}, {2}, {}})}} {
		wantNotOpen(t, s.name, s.order, 1)
		wantNotOpen(t, s.name, s.order, 3)
	}
}

// P64: a set of the second order that would be open in the first one does not fit.
func TestOpenBackOfExchangedOrders(t *testing.T) {
	got, ok := impl.OpenBack(fallingChain(2), chain(2), []int{0, 1}, 1)
	wantNoIndex(t, "open in the first order alone", got, ok)
	got, ok = impl.OpenBack(chain(3), chain(2), []int{0, 1, 1}, 4)
	wantNoIndex(t, "a set of the first order alone", got, ok)
	got, ok = impl.OpenBack(chain(2), chain(3), []int{0, 1, 2}, 4)
	wantNoIndex(t, "as long as the second order", got, ok)
	got, ok = impl.OpenBack(chain(3), chain(2), []int{0, 1, 2}, 2)
	wantNoIndex(t, "an element of the first order alone", got, ok)
	got, ok = impl.OpenBack(chain(2), chain(3), []int{0, 2}, 4)
	wantIndex(t, "of these orders", got, ok, 2)
}

// P61, P62: lists of another length, nil lists, and lists with other numbers than 0 and 1.
func TestPointsOfOtherLists(t *testing.T) {
	for _, p := range spaces(t) {
		m := len(p.opens)
		for name, bad := range noLists(m, 2) {
			wantNoPoint(t, p.name+", "+name, p.d, bad)
		}
		for k := range p.a {
			point := p.point(k)
			wantNoPoint(t, p.name, p.d, point[:m-1])
			wantNoPoint(t, p.name, p.d, point[1:])
			wantNoPoint(t, p.name, p.d, append(slices.Clone(point), 0))
			wantNoPoint(t, p.name, p.d, append(slices.Clone(point), 1))
			wantNoPoint(t, p.name, p.d, append([]int{0}, point...))
			for at := 0; at < m; at += 1 + m/8 {
				for _, other := range []int{2, 3, -1, -2, 256, 257, 1 << 32, 1<<32 + 1, math.MinInt, math.MinInt + 1, math.MaxInt} {
					bad := slices.Clone(point)
					bad[at] = other
					wantNoPoint(t, p.name, p.d, bad)
				}
			}
			doubled, _ := each(point, point, func(x int, y int) int { return x + y })
			wantNoPoint(t, p.name+", 2 for 1", p.d, doubled)
			for i := range doubled {
				doubled[i] = -point[i]
			}
			wantNoPoint(t, p.name+", -1 for 1", p.d, doubled)
		}
	}
}

// P64, P65: lists that are no function: of another length, nil ones, and those with elements that are none.
func TestOpenFunctionsOfOtherLists(t *testing.T) {
	spacePairs(t, func(p space, q space) {
		for name, bad := range noLists(len(p.a), len(q.a)) {
			wantNoContinuous(t, p.name+" to "+q.name+", "+name, p.d, q.d, bad)
		}
	})
}

// P60: numbers of elements less than 1 and greater than 9, with sets that tell no two elements apart, or all.
func TestOpenOrderOfOtherNumbers(t *testing.T) {
	for _, n := range []int{0, -1, -2, -9, 10, 11, 12, 31, 32, 62, 63, 64, 65, 200, math.MinInt, math.MinInt + 9, math.MaxInt} {
		for _, sets := range [][]int{nil, {}, {0}, {1}, {0, 1}, {1, 2}, {1, 2, 4, 8, 16, 32, 64, 128, 256, 512}, identity(2048)} {
			d, ok := impl.OpenOrder(n, sets)
			wantNoOrder(t, fmt.Sprint("OpenOrder of ", n), d, ok)
		}
		var ones []int
		for i := range min(max(n, 0), 62) {
			ones = append(ones, 1<<i)
		}
		d, ok := impl.OpenOrder(n, ones)
		wantNoOrder(t, fmt.Sprint("OpenOrder of ", n, " and each one alone"), d, ok)
	}
}

// P60: sets that do not ascend, or are equal, negative ones, and those with elements that are none, among sets that tell an order.
func TestOpenOrderOfOtherLists(t *testing.T) {
	for n := 1; n <= 9; n++ {
		var ones []int
		for i := range n {
			ones = append(ones, 1<<i)
		}
		wantTold(t, n, ones)
		twice, first := slices.Repeat(ones[n-1:], 2), slices.Repeat(ones[:1], 2)
		for _, bad := range [][]int{append(slices.Clone(ones), ones[n-1]), append(first, ones[1:]...), append(slices.Clone(ones[:n-1]), twice...), append(slices.Clone(ones), 0), append(slices.Clone(ones), 1), {0, 0}} {
			d, ok := impl.OpenOrder(n, bad)
			wantNoOrder(t, fmt.Sprint("OpenOrder of ", n, " and ", bad), d, ok)
		}
		if n > 1 {
			bad := slices.Clone(ones)
			slices.Reverse(bad)
			d, ok := impl.OpenOrder(n, bad)
			wantNoOrder(t, fmt.Sprint("OpenOrder of ", n, " and ", bad), d, ok)
		}
		for _, set := range noSets(n) {
			if set >= 0 && set < 1<<n {
				continue
			}
			for _, bad := range [][]int{{set}, append(slices.Clone(ones), set), append([]int{set}, ones...)} {
				d, ok := impl.OpenOrder(n, bad)
				wantNoOrder(t, fmt.Sprint("OpenOrder of ", n, " and ", bad), d, ok)
			}
		}
	}
}
