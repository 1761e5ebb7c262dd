package tests

import (
	"fmt"
	"math"
	"slices"
	"testing"

	"loop.example/scottdomains/impl"
)

// space is an order with its opens, by the document's sentence.
type space struct {
	name  string
	d     impl.Order
	a     above
	opens []int
}

// spaceOf returns an order with its opens.
func spaceOf(s sample) space {
	p := space{name: s.name, d: s.order, a: aboveOf(s.order)}
	for set := range 1 << len(p.a) {
		if p.a.isOpen(set) {
			p.opens = append(p.opens, set)
		}
	}
	return p
}

// spacesOf returns orders with their opens.
func spacesOf(samples []sample) []space {
	var all []space
	for _, s := range samples {
		all = append(all, spaceOf(s))
	}
	return all
}

// isOpen reports whether a set has with each element all that are above it.
func (a above) isOpen(set int) bool {
	for i := range a {
		for k := range a {
			if in(i, set) && a[i][k] && !in(k, set) {
				return false
			}
		}
	}
	return true
}

// whole returns the set of all elements.
func (p space) whole() int {
	return 1<<len(p.a) - 1
}

// inner returns the open within a set that has all others, or -1.
func (p space) inner(set int) int {
	for _, u := range p.opens {
		greatest := inside(u, set)
		for _, v := range p.opens {
			greatest = greatest && (!inside(v, set) || inside(v, u))
		}
		if greatest {
			return u
		}
	}
	return -1
}

// compact returns the elements of a set for which no other one of it is below them.
func (p space) compact(set int) []int {
	var list []int
	for i := range p.a {
		fits := in(i, set)
		for k := range p.a {
			fits = fits && (k == i || !in(k, set) || !p.a[k][i])
		}
		if fits {
			list = append(list, i)
		}
	}
	return list
}

// point returns the marks of the opens that an element is in.
func (p space) point(k int) []int {
	var marks []int
	for _, u := range p.opens {
		mark := 0
		if in(k, u) {
			mark = 1
		}
		marks = append(marks, mark)
	}
	return marks
}

// isPoint reports whether marks are a point, looking at each two opens.
func (p space) isPoint(marks []int) bool {
	last := len(p.opens) - 1
	if len(marks) != len(p.opens) || marks[0] != 0 || marks[last] != 1 {
		return false
	}
	bySet := make([]int, 1<<len(p.a))
	for i, u := range p.opens {
		bySet[u] = marks[i]
	}
	for i, u := range p.opens {
		for k, v := range p.opens {
			if marks[i] < 0 || marks[i] > 1 || bySet[u&v] != min(marks[i], marks[k]) || bySet[u|v] != max(marks[i], marks[k]) {
				return false
			}
		}
	}
	return true
}

// element returns the element that makes a point, or -1.
func (p space) element(marks []int) int {
	for k := range p.a {
		if slices.Equal(p.point(k), marks) {
			return k
		}
	}
	return -1
}

// marks returns lists of 0 and 1 for the opens: all if they are few; otherwise each point, what differs from it in one open,
// what two points have both and what one of both has, opens with many elements, and lists made from a seed.
func (p space) marks() [][]int {
	m := len(p.opens)
	if m <= 8 {
		return allLists(m, 2)
	}
	lists := someLists(m, 2, uint32(m))
	for k := range p.a {
		point := p.point(k)
		lists = append(lists, point)
		for at := k % 3; at < m; at += 1 + m/12 {
			other := slices.Clone(point)
			other[at] = 1 - other[at]
			lists = append(lists, other)
		}
		for i := range k {
			both, _ := each(point, p.point(i), func(x int, y int) int { return min(x, y) })
			either, _ := each(point, p.point(i), func(x int, y int) int { return max(x, y) })
			lists = append(lists, both, either)
		}
		many := make([]int, m)
		for i, u := range p.opens {
			if len(picked(u, identity(len(p.a)))) > k {
				many[i] = 1
			}
		}
		lists = append(lists, many)
	}
	return lists
}

// back returns all elements that a list takes into a set.
func back(f []int, set int) int {
	from := 0
	for i, k := range f {
		if in(k, set) {
			from += 1 << i
		}
	}
	return from
}

// continuous reports whether a function of the elements of one order to those of another one has open sets going to open ones.
func (p space) continuous(q space, f []int) bool {
	for _, u := range q.opens {
		if !p.a.isOpen(back(f, u)) {
			return false
		}
	}
	return true
}

// functions returns lists of elements of a second order for those of a first one, continuous or not: all if they are few;
// otherwise constant ones, those with one element on an open set and a lower one elsewhere, these with one number changed, and lists made from a seed.
func (p space) functions(q space) [][]int {
	n, m := len(p.a), len(q.a)
	lists := someLists(n, m, uint32(n*10+m))
	if math.Pow(float64(m), float64(n)) <= 200 {
		return lists
	}
	if n == m {
		lists = append(lists, identity(n))
	}
	for low := range q.a {
		lists = append(lists, repeated(low, n))
		for high := range q.a {
			u := p.opens[(low*7+high*3)%len(p.opens)]
			step := repeated(low, n)
			for _, i := range picked(u, identity(n)) {
				step[i] = high
			}
			changed := slices.Clone(step)
			changed[(low+high)%n] = (low + 1) % m
			if q.a[low][high] {
				lists = append(lists, step, changed)
			}
		}
	}
	return lists
}

// nines returns orders of just 9 elements.
func nines(t *testing.T) []sample {
	t.Helper()
	all := []sample{
		{"chain of 9", chain(9)},
		{"falling chain of 9", fallingChain(9)},
		{"nine loose elements", loose(9)},
		{"flat of 8", flat(8)},
		{"flat of 8 turned over", aboveOf(flat(8)).back().order()},
		{"pairs of chains of 3", aboveOf(chain(3)).product(aboveOf(chain(3))).order()},
		{"cube of 3 lifted", aboveOf(cube(3)).lift().order()},
		{"three parts", must(t, [][]int{{1}, {2}, {}, {4, 5}, {}, {}, {8}, {8}, {}})},
	}
	for seed := uint32(40); seed < 46; seed++ {
		all = append(all, sample{fmt.Sprintf("mixed 9 of %d", seed), mixed(t, 9, seed)})
	}
	return all
}

// tinyOrders returns every order of at most so many elements.
func tinyOrders(most int) []sample {
	var all []sample
	for n := 1; n <= most; n++ {
		for _, d := range allOrders(n) {
			all = append(all, sample{fmt.Sprint(d.Up), d})
		}
	}
	return all
}

// spaces returns every order of at most four elements, the named ones, some made from seeds, and those of just 9 elements.
func spaces(t *testing.T) []space {
	t.Helper()
	return spacesOf(slices.Concat(tinyOrders(4), samples(t), nines(t)))
}

// largeSpaces returns the named orders, some of them domains and others not, and those of just 9 elements.
func largeSpaces(t *testing.T) []space {
	t.Helper()
	return spacesOf(slices.Concat(namedSamples(t), nines(t)))
}

// spacePairs calls a test for each two orders of at most three elements, and for some larger ones.
func spacePairs(t *testing.T, visit func(p space, q space)) {
	t.Helper()
	tiny, large := spacesOf(tinyOrders(3)), largeSpaces(t)
	for _, p := range tiny {
		for _, q := range tiny {
			visit(p, q)
		}
	}
	for i, p := range large {
		for _, q := range []space{p, large[(i+3)%len(large)], large[(i+10)%len(large)]} {
			visit(p, q)
		}
	}
}

// tooManyElements returns orders of 10 elements and more.
func tooManyElements(t *testing.T) []sample {
	t.Helper()
	return []sample{
		{"chain of 10", chain(10)},
		{"falling chain of 10", fallingChain(10)},
		{"ten loose elements", loose(10)},
		{"flat of 9", flat(9)},
		{"pairs of chains of 2 and of 5", aboveOf(chain(2)).product(aboveOf(chain(5))).order()},
		{"mixed 10", mixed(t, 10, 3)},
		{"chain of 64", chain(64)},
		{"64 loose elements", loose(64)},
		{"flat of 64", flat(64)},
		{"chain of 200", chain(200)},
		{"200 loose elements", loose(200)},
	}
}

// noOpens returns all orders of which no opens are told.
func noOpens(t *testing.T) []sample {
	t.Helper()
	return append(invalidOrders(), tooManyElements(t)...)
}

// toldOrder returns the relation in which an element is above another one if it is in each of the sets in which this is.
func toldOrder(n int, sets []int) above {
	return madeOf(n, func(i int, k int) bool {
		for _, set := range sets {
			if in(i, set) && !in(k, set) {
				return false
			}
		}
		return true
	})
}

// wantTold fails if OpenOrder does not give the order that the sets tell, or gives one though they tell none.
func wantTold(t *testing.T, n int, sets []int) {
	t.Helper()
	d, ok := impl.OpenOrder(n, sets)
	a := toldOrder(n, sets)
	if !a.isOrder() {
		wantNoOrder(t, fmt.Sprint("OpenOrder of ", n, " and ", sets), d, ok)
	} else if !ok || !sameLists(d.Up, a.order().Up) {
		t.Errorf("OpenOrder of %d and %v = %v, %v, want %v", n, sets, d.Up, ok, a.order().Up)
	}
}
