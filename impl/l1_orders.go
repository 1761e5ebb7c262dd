package impl

import (
	"iter"
	"math/bits"
	"slices"
)

// ElementsMax is the greatest number of elements of an order.
const ElementsMax = 200

// The limits of functions whose work grows faster than the number of elements.
const (
	mapElementsMax = 12
	mapsMax        = 200
	wayElementsMax = 10
)

const (
	wordBits = 64
	rowWords = (ElementsMax + wordBits - 1) / wordBits
)

// Order is an order of the numbers from 0 on.
type Order struct {
	Up [][]int
}

// row is a set of elements, a bit for each one.
type row [rowWords]uint64

// grid is an order as a value: the row of each element has what is above it.
// The rows of numbers that are no elements are empty, so that equal orders are equal values.
type grid [ElementsMax]row

// choices has, for each element of an order, the elements of another one to which it may still go.
type choices [mapElementsMax]row

// mapSearch finds the maps of one order to another one with as many elements.
type mapSearch struct {
	size           int
	fromUp, toUp   grid
	fromLow, toLow grid
	list           []int
	found          [][]int
}

// OrderValid reports whether an order is valid.
func OrderValid(d Order) bool {
	_, ok := gridOf(d)
	return ok
}

// OrderBelow reports whether an element of a valid order is below another one.
func OrderBelow(d Order, a int, b int) bool {
	g, ok := gridOf(d)
	return ok && isElement(d, a) && isElement(d, b) && g[a].has(b)
}

// OrderLeast returns the least element of an order, or -1 if it is invalid or has none.
func OrderLeast(d Order) int {
	g, ok := gridOf(d)
	if !ok {
		return -1
	}
	return g.least()
}

// OrderJoin returns the join of two elements of an order, or -1 if it is invalid, there are no such elements, or they have none.
func OrderJoin(d Order, a int, b int) int {
	g, ok := gridOf(d)
	if !ok || !isElement(d, a) || !isElement(d, b) {
		return -1
	}
	return g.join(a, b)
}

// OrderMeet returns the meet of two elements of an order, or -1 if it is invalid, there are no such elements, or they have none.
func OrderMeet(d Order, a int, b int) int {
	g, ok := gridOf(d)
	if !ok || !isElement(d, a) || !isElement(d, b) {
		return -1
	}
	back := g.back()
	return back.join(a, b)
}

// OrderCovers returns, for each element in order, the elements that cover it, ascending, and true.
func OrderCovers(d Order) ([][]int, bool) {
	g, ok := gridOf(d)
	if !ok {
		return nil, false
	}
	covers := make([][]int, g.size())
	for i := range covers {
		covers[i] = g.covers(i).list()
	}
	return covers, true
}

// OrderFrom returns the order in which an element is above another one if it is this one, or is reached from it by going to elements of its list again and again, and true.
func OrderFrom(lists [][]int) (Order, bool) {
	if len(lists) < 1 || len(lists) > ElementsMax {
		return Order{}, false
	}
	var g grid
	for i, list := range lists {
		g[i].add(i)
		for _, k := range list {
			if k < 0 || k >= len(lists) {
				return Order{}, false
			}
			g[i].add(k)
		}
	}
	g = g.closed()
	if !g.isOrder() {
		return Order{}, false
	}
	return g.order(), true
}

// OrderBack returns the order with below for above, and true.
func OrderBack(d Order) (Order, bool) {
	g, ok := gridOf(d)
	if !ok {
		return Order{}, false
	}
	back := g.back()
	return back.order(), true
}

// OrderHeight returns the greatest number of elements of a chain, in which each one is above the one ahead, or -1 if the order is invalid.
func OrderHeight(d Order) int {
	g, ok := gridOf(d)
	if !ok {
		return -1
	}
	return g.height()
}

// DomainIs reports whether an order is valid and a domain.
func DomainIs(d Order) bool {
	g, ok := gridOf(d)
	return ok && g.isDomain()
}

// OrderMaps returns all maps of the elements of an order to those of another one, one-to-one and onto, as lists, that keep above and below both ways, sorted by their numbers, and true: at most 200 of them, those that come first.
func OrderMaps(d Order, e Order) ([][]int, bool) {
	from, ok := gridOf(d)
	to, fine := gridOf(e)
	if !ok || !fine || len(d.Up) > mapElementsMax || len(e.Up) > mapElementsMax {
		return nil, false
	}
	if len(d.Up) != len(e.Up) {
		return nil, true
	}
	s := mapSearch{size: len(d.Up), fromUp: from, toUp: to, fromLow: from.back(), toLow: to.back()}
	s.list = make([]int, s.size)
	s.place(0, s.start())
	return s.found, true
}

// OrderSame reports whether OrderMaps of two orders has some map.
func OrderSame(d Order, e Order) bool {
	maps, _ := OrderMaps(d, e)
	return len(maps) > 0
}

// OrderWays returns the number of lists in which all elements of an order stand once, none ahead of one that is below it, or -1 if the order is invalid or has more than 10 elements.
func OrderWays(d Order) int {
	g, ok := gridOf(d)
	size := len(d.Up)
	if !ok || size > wayElementsMax {
		return -1
	}
	back := g.back()
	var ways [1 << wayElementsMax]int // for each set of elements, the lists of just these
	ways[0] = 1
	all := 1<<size - 1
	for set := range all { // a set leads only to greater numbers, so its own count is complete here
		for i := range size {
			ahead := int(back[i].without(rowOf(i))[0])
			if set>>i&1 == 0 && ahead&^set == 0 {
				ways[set|1<<i] += ways[set]
			}
		}
	}
	return ways[all]
}

// isElement reports whether a number is an element of an order.
func isElement(d Order, a int) bool {
	return a >= 0 && a < len(d.Up)
}

// ascendsBelow reports whether a list ascends and all of its numbers are from 0 to size - 1.
func ascendsBelow(list []int, size int) bool {
	last := -1
	for _, k := range list {
		if k <= last || k >= size {
			return false
		}
		last = k
	}
	return true
}

// allBelow reports whether all numbers of a list are from 0 to size - 1.
func allBelow(list []int, size int) bool {
	return !slices.ContainsFunc(list, func(k int) bool { return k < 0 || k >= size })
}

// rowOf returns the set of one element.
func rowOf(k int) row {
	var r row
	r.add(k)
	return r
}

// add puts an element into a set.
func (r *row) add(k int) {
	r[k/wordBits] |= 1 << (k % wordBits)
}

// has reports whether an element is in a set.
func (r row) has(k int) bool {
	return r[k/wordBits]>>(k%wordBits)&1 == 1
}

// and returns the intersection of two sets.
func (r row) and(s row) row {
	for i, word := range s {
		r[i] &= word
	}
	return r
}

// or returns the union of two sets.
func (r row) or(s row) row {
	for i, word := range s {
		r[i] |= word
	}
	return r
}

// without returns what of a set is not in another one.
func (r row) without(s row) row {
	for i, word := range s {
		r[i] &^= word
	}
	return r
}

// empty reports whether a set has no element.
func (r row) empty() bool {
	return r == row{}
}

// count returns the number of elements of a set.
func (r row) count() int {
	n := 0
	for _, word := range r {
		n += bits.OnesCount64(word)
	}
	return n
}

// first returns the least number in a set, or -1 if it is empty.
func (r row) first() int {
	for i, word := range r {
		if word != 0 {
			return i*wordBits + bits.TrailingZeros64(word)
		}
	}
	return -1
}

// elements gives the elements of a set, ascending.
func (r row) elements() iter.Seq[int] {
	return func(yield func(int) bool) {
		for i, word := range r {
			for ; word != 0; word &= word - 1 {
				if !yield(i*wordBits + bits.TrailingZeros64(word)) {
					return
				}
			}
		}
	}
}

// list returns the elements of a set, ascending.
func (r row) list() []int {
	list := make([]int, 0, r.count())
	for k := range r.elements() {
		list = append(list, k)
	}
	return list
}

// gridOf returns the rows of an order, and true, or false if it is invalid.
func gridOf(d Order) (grid, bool) {
	if len(d.Up) < 1 || len(d.Up) > ElementsMax {
		return grid{}, false
	}
	var g grid
	for i, list := range d.Up {
		if !ascendsBelow(list, len(d.Up)) {
			return grid{}, false
		}
		for _, k := range list {
			g[i].add(k)
		}
		if !g[i].has(i) {
			return grid{}, false
		}
	}
	return g, g.isOrder()
}

// isOrder reports whether rows, each of which has its own element, are those of an order.
func (g *grid) isOrder() bool {
	for i := range g.size() {
		if !g.fitsAt(i) {
			return false
		}
	}
	return true
}

// fitsAt reports whether the row of an element holds the rows of all its elements, none of which has the element itself.
// What is in a row already looked at is skipped: if that row, a smaller one, fits too, it holds the rows of all its elements.
func (g *grid) fitsAt(i int) bool {
	rest := g[i].without(rowOf(i))
	for !rest.empty() {
		above := g[rest.first()]
		if above.has(i) || !above.without(g[i]).empty() {
			return false
		}
		rest = rest.without(above)
	}
	return true
}

// size returns the number of elements. Their rows are not empty, as each one is above itself.
func (g *grid) size() int {
	n := 0
	for n < ElementsMax && !g[n].empty() {
		n++
	}
	return n
}

// order returns the order with these rows.
func (g *grid) order() Order {
	up := make([][]int, g.size())
	for i := range up {
		up[i] = g[i].list()
	}
	return Order{Up: up}
}

// back returns the rows with below for above.
func (g *grid) back() grid {
	var back grid
	for i := range g.size() {
		for k := range g[i].elements() {
			back[k].add(i)
		}
	}
	return back
}

// closed returns the rows with all that is reached from each element.
func (g grid) closed() grid {
	for {
		next := g
		for i := range g.size() {
			for k := range g[i].elements() {
				next[i] = next[i].or(g[k])
			}
		}
		if next == g {
			return g
		}
		g = next
	}
}

// bottom returns the element of a set that is below all others of it, or -1.
// The set has with each element all that are above it, so that just the row of this element is equal to it.
func (g *grid) bottom(set row) int {
	for k := range set.elements() {
		if g[k] == set {
			return k
		}
	}
	return -1
}

// all returns the set of all elements.
func (g *grid) all() row {
	var all row
	for i := range g.size() {
		all.add(i)
	}
	return all
}

// least returns the least element, or -1.
func (g *grid) least() int {
	return g.bottom(g.all())
}

// join returns the join of two elements, or -1.
func (g *grid) join(a int, b int) int {
	return g.bottom(g[a].and(g[b]))
}

// covers returns the elements that cover an element.
func (g *grid) covers(i int) row {
	above := g[i].without(rowOf(i))
	covers := above
	for k := range above.elements() {
		covers = covers.without(g[k].without(rowOf(k)))
	}
	return covers
}

// height returns the greatest number of elements of a chain: as often as all elements with nothing above them can be taken away.
func (g *grid) height() int {
	height := 0
	for left := g.all(); !left.empty(); height++ {
		var tops row
		for i := range left.elements() {
			if g[i].and(left) == rowOf(i) {
				tops.add(i)
			}
		}
		left = left.without(tops)
	}
	return height
}

// isDomain reports whether there is a least element, and a join of each two bounded elements.
func (g *grid) isDomain() bool {
	if g.least() < 0 {
		return false
	}
	size := g.size()
	for a := range size {
		for b := range a {
			if common := g[a].and(g[b]); !common.empty() && g.bottom(common) < 0 {
				return false
			}
		}
	}
	return true
}

// start returns the choices ahead of all: an element goes to those with as many above and as many below.
func (s *mapSearch) start() choices {
	var open choices
	for i := range s.size {
		for k := range s.size {
			if s.fromUp[i].count() == s.toUp[k].count() && s.fromLow[i].count() == s.toLow[k].count() {
				open[i].add(k)
			}
		}
	}
	return open
}

// place keeps all maps that continue the first i numbers of the list.
func (s *mapSearch) place(i int, open choices) {
	if i == s.size {
		s.found = append(s.found, slices.Clone(s.list))
		return
	}
	for k := range open[i].elements() {
		if len(s.found) == mapsMax {
			return
		}
		if next, ok := s.narrowed(open, i, k); ok {
			s.list[i] = k
			s.place(i+1, next)
		}
	}
}

// narrowed returns the choices that are left to later elements if i goes to k, and whether each one has some.
func (s *mapSearch) narrowed(open choices, i int, k int) (choices, bool) {
	higher, lower := s.toUp[k].without(rowOf(k)), s.toLow[k].without(rowOf(k))
	beside := s.toUp.all().without(s.toUp[k]).without(s.toLow[k])
	for m := i + 1; m < s.size; m++ {
		fit := beside
		if s.fromUp[i].has(m) {
			fit = higher
		} else if s.fromLow[i].has(m) {
			fit = lower
		}
		open[m] = open[m].and(fit)
		if open[m].empty() {
			return choices{}, false
		}
	}
	return open, true
}
