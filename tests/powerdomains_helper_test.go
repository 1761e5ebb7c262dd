package tests

import (
	"fmt"
	"math"
	"slices"
	"testing"

	"loop.example/scottdomains/impl"
)

// kinds returns the three kinds.
func kinds() []string {
	return []string{"lower", "upper", "convex"}
}

// noKinds returns texts that are no kind.
func noKinds() []string {
	return []string{
		"", " ", "x", "lowe", "lowers", "Lower", "UPPER", "Convex", "lower ", " upper", "convex\n", "\x00", "lower\x00",
		"\xff\xfe", "lower upper", "lowerupper", "up", "con", "конвекс", "plotkin", "both", "0", "-1",
	}
}

// power is a powerdomain by the document's sentences: a domain, a kind, and the sets of the kind.
type power struct {
	name string
	d    impl.Order
	a    above
	kind string
	sets []int
}

// in reports whether an element is in a set.
func in(k int, set int) bool {
	return set>>k&1 == 1
}

// lowerClosure returns all elements that are below some of a set.
func (a above) lowerClosure(set int) int {
	closed := 0
	for i := range a {
		for k := range a {
			if in(k, set) && a[i][k] {
				closed |= 1 << i
			}
		}
	}
	return closed
}

// upperClosure returns all elements that are above some of a set.
func (a above) upperClosure(set int) int {
	return a.back().lowerClosure(set)
}

// closure returns the closure of a kind.
func (a above) closure(kind string, set int) int {
	switch kind {
	case "lower":
		return a.lowerClosure(set)
	case "upper":
		return a.upperClosure(set)
	}
	closed := 0
	for i := range a {
		if in(i, a.lowerClosure(set)) && in(i, a.upperClosure(set)) {
			closed += 1 << i
		}
	}
	return closed
}

// nonempty returns the nonempty sets of the elements.
func (a above) nonempty() []int {
	var sets []int
	for set := 1; set < 1<<len(a); set++ {
		sets = append(sets, set)
	}
	return sets
}

// powerOf returns the powerdomain of a kind of a domain.
func powerOf(s sample, kind string) power {
	p := power{name: s.name + ", " + kind, d: s.order, a: aboveOf(s.order), kind: kind}
	for _, set := range p.a.nonempty() {
		if p.close(set) == set {
			p.sets = append(p.sets, set)
		}
	}
	return p
}

// close returns the closure of a set.
func (p power) close(set int) int {
	return p.a.closure(p.kind, set)
}

// index returns the index of the closure of a set.
func (p power) index(set int) int {
	return slices.Index(p.sets, p.close(set))
}

// below reports whether the closure of a set is below that of another one.
func (p power) below(set int, other int) bool {
	s, r := p.close(set), p.close(other)
	lower := inside(p.a.lowerClosure(s), p.a.lowerClosure(r))
	upper := inside(p.a.upperClosure(r), p.a.upperClosure(s))
	switch p.kind {
	case "lower":
		return inside(s, r)
	case "upper":
		return inside(r, s)
	}
	return lower && upper
}

// order returns the order of the sets.
func (p power) order() above {
	return madeOf(len(p.sets), func(i int, k int) bool { return p.below(p.sets[i], p.sets[k]) })
}

// ones returns the index of the closure of each element alone.
func (p power) ones() []int {
	var list []int
	for i := range p.a {
		list = append(list, p.index(1<<i))
	}
	return list
}

// mapped returns what PowerMap tells of a function.
func (p power) mapped(to power, f []int) []int {
	var list []int
	for _, set := range p.sets {
		image := 0
		for i, k := range f {
			if in(i, set) {
				image |= 1 << k
			}
		}
		list = append(list, to.index(image))
	}
	return list
}

// extended returns what PowerExtend tells of a list of indexes.
func (p power) extended(to power, list []int) []int {
	var extension []int
	for _, set := range p.sets {
		union := 0
		for i, k := range list {
			if in(i, set) {
				union |= to.sets[k]
			}
		}
		extension = append(extension, to.index(union))
	}
	return extension
}

// indexPairs calls a test for pairs of indexes: for all if they are few, and otherwise for some that differ in distance.
func (p power) indexPairs(visit func(i int, k int)) {
	n := len(p.sets)
	stride := 1 + n*n/700
	for at := 0; at < n*n; at += stride {
		visit(at/n, at%n)
	}
}

// setPairs calls a test for pairs of nonempty sets of elements, as indexPairs does.
func (p power) setPairs(visit func(set int, other int)) {
	n := 1<<len(p.a) - 1
	stride := 1 + n*n/700
	for at := 0; at < n*n; at += stride {
		visit(1+at/n, 1+at%n)
	}
}

// sevens returns domains of just 7 elements: named ones, and some made from seeds.
func sevens(t *testing.T) []sample {
	t.Helper()
	all := []sample{
		{"chain of 7", chain(7)},
		{"falling chain of 7", fallingChain(7)},
		{"flat of 6", flat(6)},
		{"ladder", must(t, [][]int{{1, 2}, {3}, {3, 4}, {5}, {5}, {6}, {}})},
		{"tree", must(t, [][]int{{1, 2}, {3, 4}, {5, 6}, {}, {}, {}, {}})},
		{"five between, the least one is 6", must(t, [][]int{{5}, {5}, {5}, {5}, {5}, {}, {0, 1, 2, 3, 4}})},
	}
	for seed := uint32(0); len(all) < 12; seed++ {
		d := aboveOf(mixed(t, 6, seed)).lift()
		if d.isDomain() {
			names := permutations(7, 4000)[(seed*97)%4000]
			all = append(all, sample{fmt.Sprintf("mixed 7 of %d", seed), renamed(t, d.order(), names)})
		}
	}
	return all
}

// powers returns the powerdomains of every domain of at most three elements, some of four, the named ones and those of just 7 elements.
func powers(t *testing.T) []power {
	t.Helper()
	all := smallDomains(4)
	few := len(smallDomains(3))
	var domains []sample
	for i, s := range all {
		if i < few || i%4 == 0 {
			domains = append(domains, s)
		}
	}
	var found []power
	for _, s := range slices.Concat(domains, namedDomains(t), sevens(t)) {
		for _, kind := range kinds() {
			found = append(found, powerOf(s, kind))
		}
	}
	return found
}

// powerPairs calls a test for two powerdomains of one kind: of each two domains of at most three elements, and of some named ones.
func powerPairs(t *testing.T, visit func(p power, q power)) {
	t.Helper()
	small, named := smallDomains(3), append(namedDomains(t), sevens(t)...)
	for _, kind := range kinds() {
		for _, s := range small {
			for _, r := range small {
				visit(powerOf(s, kind), powerOf(r, kind))
			}
		}
		for i, s := range named {
			for _, r := range []sample{s, named[(i+3)%len(named)], named[(i+10)%len(named)]} {
				visit(powerOf(s, kind), powerOf(r, kind))
			}
		}
	}
}

// someFunctions returns monotone functions of one order to another one, which has a least element: all if the lists are few,
// and otherwise constant ones, steps, and what some lists made from a seed are above of.
func someFunctions(a above, b above) [][]int {
	if math.Pow(float64(len(b)), float64(len(a))) <= 700 {
		return a.functions(b)
	}
	var all [][]int
	for k := range b {
		all = append(all, repeated(k, len(a)))
		step := repeated(b.least(), len(a))
		for i := range a {
			if a[(k+1)%len(a)][i] {
				step[i] = k
			}
		}
		all = append(all, step)
	}
	if len(a) == len(b) && a.monotone(b, identity(len(a))) {
		all = append(all, identity(len(a)))
	}
	if len(b) <= 7 {
		for _, list := range someLists(len(a), len(b), uint32(len(a)*8+len(b))) {
			all = append(all, a.loweredTo(b, list))
		}
	}
	return all
}

// loweredTo returns the greatest monotone function to a domain that is below a list: the meet of all that the list has for what is above.
func (a above) loweredTo(b above, list []int) []int {
	lowered := slices.Clone(list)
	for i := range a {
		for k := range a {
			if a[i][k] {
				lowered[i] = b.meet(lowered[i], list[k])
			}
		}
	}
	return lowered
}

// someLists returns lists of n numbers below size, monotone or not: all if they are few, and otherwise some that depend on a seed alone.
func someLists(n int, size int, seed uint32) [][]int {
	if math.Pow(float64(size), float64(n)) <= 200 {
		return allLists(n, size)
	}
	lists := [][]int{repeated(0, n), repeated(size-1, n)}
	for len(lists) < 12 {
		list := make([]int, n)
		for i := range list {
			seed = seed*1664525 + 1013904223
			list[i] = int(seed>>16) % size
		}
		lists = append(lists, list)
	}
	return lists
}

// tooLarge returns domains of 8 elements and more.
func tooLarge() []sample {
	return []sample{
		{"chain of 8", chain(8)},
		{"falling chain of 8", fallingChain(8)},
		{"flat of 7", flat(7)},
		{"cube of 3", cube(3)},
		{"chain of 64", chain(64)},
		{"flat of 64", flat(64)},
		{"chain of 200", chain(200)},
		{"flat of 199", flat(199)},
	}
}

// noPowers returns all orders of which no powerdomain is made.
func noPowers(t *testing.T) []sample {
	t.Helper()
	return append(refused(t), tooLarge()...)
}

// wantIndex fails if a function did not give the wanted number.
func wantIndex(t *testing.T, what string, k int, ok bool, want int) {
	t.Helper()
	if !ok || k != want {
		t.Errorf("%s = %d, %v, want %d", what, k, ok, want)
	}
}

// wantNoIndex fails if a function gave a number.
func wantNoIndex(t *testing.T, what string, k int, ok bool) {
	t.Helper()
	if ok || k != 0 {
		t.Errorf("%s = %d, %v, want none", what, k, ok)
	}
}
