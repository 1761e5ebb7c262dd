package tests

import (
	"fmt"
	"reflect"
	"slices"
	"testing"

	"loop.example/scottdomains/impl"
)

// sample is an order with the name by which a failing test tells it.
type sample struct {
	name  string
	order impl.Order
}

// above is an order as the document tells it: above[i][k] is whether k is above i.
type above [][]bool

// use is what the functions of a chapter are called with: the same in new memory, its lists, and the lists of all results.
type use[U any] interface {
	cloned() U
	lists() [][]int
	results() [][]int
}

// must returns an order made of lists of elements above.
func must(t *testing.T, lists [][]int) impl.Order {
	t.Helper()
	d, ok := impl.OrderFrom(lists)
	if !ok {
		t.Fatalf("OrderFrom(%v) failed", lists)
	}
	return d
}

// chain returns the order of n elements, each one above all less numbers.
func chain(n int) impl.Order {
	up := make([][]int, n)
	for i := range up {
		for k := i; k < n; k++ {
			up[i] = append(up[i], k)
		}
	}
	return impl.Order{Up: up}
}

// fallingChain returns the order of n elements, each one below all less numbers.
func fallingChain(n int) impl.Order {
	up := make([][]int, n)
	for i := range up {
		for k := 0; k <= i; k++ {
			up[i] = append(up[i], k)
		}
	}
	return impl.Order{Up: up}
}

// loose returns the order of n elements, none above another one.
func loose(n int) impl.Order {
	up := make([][]int, n)
	for i := range up {
		up[i] = []int{i}
	}
	return impl.Order{Up: up}
}

// flat returns the order of a least element 0 and n further ones.
func flat(n int) impl.Order {
	d := loose(n + 1)
	for k := 1; k <= n; k++ {
		d.Up[0] = append(d.Up[0], k)
	}
	return d
}

// cube returns the sets of n things, ordered by inclusion.
func cube(n int) impl.Order {
	up := make([][]int, 1<<n)
	for i := range up {
		for k := range up {
			if i&^k == 0 {
				up[i] = append(up[i], k)
			}
		}
	}
	return impl.Order{Up: up}
}

// mixed returns an order of n elements that depends on a seed alone, its numbers shuffled.
func mixed(t *testing.T, n int, seed uint32) impl.Order {
	t.Helper()
	next := func(limit int) int {
		seed = seed*1664525 + 1013904223
		return int(seed>>16) % limit
	}
	names := make([]int, n)
	for i := range names {
		names[i] = i
	}
	for i := n - 1; i > 0; i-- {
		k := next(i + 1)
		names[i], names[k] = names[k], names[i]
	}
	lists := make([][]int, n)
	chance := 2 + next(4)
	for i := range n {
		for k := i + 1; k < n; k++ {
			if next(chance) == 0 {
				lists[names[i]] = append(lists[names[i]], names[k])
			}
		}
	}
	return must(t, lists)
}

// renamed returns an order with other numbers: the element i becomes names[i].
func renamed(t *testing.T, d impl.Order, names []int) impl.Order {
	t.Helper()
	lists := make([][]int, len(d.Up))
	for i, list := range d.Up {
		for _, k := range list {
			lists[names[i]] = append(lists[names[i]], names[k])
		}
	}
	return must(t, lists)
}

// namedSamples returns orders that the document's conditions tell apart.
func namedSamples(t *testing.T) []sample {
	t.Helper()
	return []sample{
		{"one element", chain(1)},
		{"chain of 2", chain(2)},
		{"chain of 5", chain(5)},
		{"falling chain of 5", fallingChain(5)},
		{"two loose elements", loose(2)},
		{"five loose elements", loose(5)},
		{"flat of 4", flat(4)},
		{"cube of 3", cube(3)},
		{"diamond", must(t, [][]int{{1, 2}, {3}, {3}, {}})},
		{"three between", must(t, [][]int{{1, 2, 3}, {4}, {4}, {4}, {}})},
		{"pentagon", must(t, [][]int{{1, 2}, {3}, {4}, {4}, {}})},
		{"two below two", must(t, [][]int{{2, 3}, {2, 3}, {}, {}})},
		{"bounded without a join", must(t, [][]int{{1, 2}, {3, 4}, {3, 4}, {5}, {5}, {}})},
		{"crown", must(t, [][]int{{3, 4}, {4, 5}, {3, 5}, {}, {}, {}})},
		{"two least below one", must(t, [][]int{{2}, {2}, {}})},
		{"zigzag", must(t, [][]int{{2}, {2, 3}, {}, {}})},
		{"two parts", must(t, [][]int{{1}, {}, {3}, {4}, {}})},
		{"least is 2", must(t, [][]int{{}, {0}, {1, 3}, {}})},
	}
}

// samples returns the named orders, and some made from seeds.
func samples(t *testing.T) []sample {
	t.Helper()
	all := namedSamples(t)
	for seed := range uint32(30) {
		n := 5 + int(seed%4)
		all = append(all, sample{fmt.Sprintf("mixed %d of %d", n, seed), mixed(t, n, seed)})
	}
	return all
}

// allOrders returns every order of n elements.
func allOrders(n int) []impl.Order {
	var all []impl.Order
	for code := range 1 << (n * n) {
		if a, d := relation(n, code); a.isOrder() {
			all = append(all, d)
		}
	}
	return all
}

// relation returns the relation with the bits of a number, order or not, and the same as lists.
func relation(n int, code int) (above, impl.Order) {
	a := make(above, n)
	up := make([][]int, n)
	for i := range n {
		a[i] = make([]bool, n)
		for k := range n {
			if code>>(i*n+k)&1 == 1 {
				a[i][k] = true
				up[i] = append(up[i], k)
			}
		}
	}
	return a, impl.Order{Up: up}
}

func aboveOf(d impl.Order) above {
	a := make(above, len(d.Up))
	for i, list := range d.Up {
		a[i] = make([]bool, len(d.Up))
		for _, k := range list {
			a[i][k] = true
		}
	}
	return a
}

func (a above) isOrder() bool {
	for i := range a {
		if !a[i][i] {
			return false
		}
		for k := range a {
			if i != k && a[i][k] && a[k][i] {
				return false
			}
			for m := range a {
				if a[i][k] && a[k][m] && !a[i][m] {
					return false
				}
			}
		}
	}
	return len(a) > 0
}

func (a above) back() above {
	back := make(above, len(a))
	for i := range a {
		back[i] = make([]bool, len(a))
		for k := range a {
			back[i][k] = a[k][i]
		}
	}
	return back
}

func (a above) least() int {
	for i := range a {
		if !slices.Contains(a[i], false) {
			return i
		}
	}
	return -1
}

func (a above) join(x int, y int) int {
	for j := range a {
		if !a[x][j] || !a[y][j] {
			continue
		}
		fits := true
		for m := range a {
			fits = fits && (!a[x][m] || !a[y][m] || a[j][m])
		}
		if fits {
			return j
		}
	}
	return -1
}

func (a above) bounded(x int, y int) bool {
	for m := range a {
		if a[x][m] && a[y][m] {
			return true
		}
	}
	return false
}

func (a above) isDomain() bool {
	for x := range a {
		for y := range a {
			if a.bounded(x, y) && a.join(x, y) < 0 {
				return false
			}
		}
	}
	return a.least() >= 0
}

func (a above) covers(i int) []int {
	list := []int{}
	for k := range a {
		fits := k != i && a[i][k]
		for m := range a {
			fits = fits && !(m != i && m != k && a[i][m] && a[m][k])
		}
		if fits {
			list = append(list, k)
		}
	}
	return list
}

func (a above) height() int {
	var from func(i int) int
	from = func(i int) int {
		longest := 1
		for k := range a {
			if k != i && a[i][k] {
				longest = max(longest, 1+from(k))
			}
		}
		return longest
	}
	height := 0
	for i := range a {
		height = max(height, from(i))
	}
	return height
}

func (a above) ways() int {
	ways := 0
	for _, list := range permutations(len(a), 1<<62) {
		fits := true
		for i := range list {
			for k := i + 1; k < len(list); k++ {
				fits = fits && !a[list[k]][list[i]]
			}
		}
		if fits {
			ways++
		}
	}
	return ways
}

// maps returns the first maps to another order, at most limit.
func (a above) maps(b above, limit int) [][]int {
	found := [][]int{}
	if len(a) != len(b) {
		return found
	}
	for _, list := range permutations(len(a), 1<<62) {
		if len(found) < limit && a.keeps(b, list) {
			found = append(found, list)
		}
	}
	return found
}

// keeps reports whether a list keeps above and below both ways.
func (a above) keeps(b above, list []int) bool {
	for i := range a {
		for k := range a {
			if a[i][k] != b[list[i]][list[k]] {
				return false
			}
		}
	}
	return true
}

// permutations returns the lists of 0 to n - 1 in which each number stands once, sorted, at most limit.
func permutations(n int, limit int) [][]int {
	var all [][]int
	var list []int
	used := make([]bool, n)
	var fill func()
	fill = func() {
		if len(all) == limit {
			return
		}
		if len(list) == n {
			all = append(all, slices.Clone(list))
			return
		}
		for k := range n {
			if !used[k] {
				used[k], list = true, append(list, k)
				fill()
				used[k], list = false, list[:len(list)-1]
			}
		}
	}
	fill()
	return all
}

// sameLists reports whether two lists of lists are equal, a nil one and an empty one being so.
func sameLists(a [][]int, b [][]int) bool {
	return slices.EqualFunc(a, b, slices.Equal[[]int])
}

func cloneLists(lists [][]int) [][]int {
	clone := make([][]int, len(lists))
	for i, list := range lists {
		clone[i] = slices.Clone(list)
	}
	return clone
}

// wantSeparate fails if two of the lists share memory, their capacities included.
func wantSeparate(t *testing.T, what string, lists ...[]int) {
	t.Helper()
	before := cloneLists(lists)
	for i, list := range lists {
		whole := list[:cap(list)]
		old := slices.Clone(whole)
		for k := range whole {
			whole[k] = -7
		}
		for m, other := range lists {
			if m != i && !slices.Equal(other, before[m]) {
				t.Errorf("%s: lists %d and %d share memory", what, i, m)
			}
		}
		copy(whole, old)
	}
	if !reflect.DeepEqual(before, cloneLists(lists)) {
		t.Errorf("%s: lists were not restored", what)
	}
}

// wantArgumentsStay fails if the functions of a chapter change what they are called with.
func wantArgumentsStay[U use[U]](t *testing.T, what string, u U) {
	t.Helper()
	u = u.cloned()
	before := cloneLists(u.lists())
	u.results()
	if !sameLists(before, u.lists()) {
		t.Errorf("%s: %v became %v", what, before, u.lists())
	}
}

// wantResultsSeparate fails if what the functions of a chapter return shares memory with what they are called with, or with each other.
func wantResultsSeparate[U use[U]](t *testing.T, what string, u U) {
	t.Helper()
	u = u.cloned()
	wantSeparate(t, what, slices.Concat(u.lists(), u.results())...)
}

// wantNothingKept fails if a call tells something else after its results, lists in new memory, were changed.
func wantNothingKept(t *testing.T, what string, results func() [][]int) {
	t.Helper()
	first := results()
	want := cloneLists(first)
	for _, list := range first {
		for i := range list {
			list[i] = -7
		}
	}
	if again := results(); !sameLists(again, want) {
		t.Errorf("%s: results became %v, want %v", what, again, want)
	}
}
