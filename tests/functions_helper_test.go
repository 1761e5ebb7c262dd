package tests

import (
	"fmt"
	"math"
	"slices"
	"testing"

	"loop.example/scottdomains/impl"
)

// hom is two domains with all monotone functions of the first to the second one, found by the definition.
type hom struct {
	name string
	d, e impl.Order
	a, b above
	funs [][]int
}

// homOf returns two domains with their functions.
func homOf(s sample, r sample) hom {
	a, b := aboveOf(s.order), aboveOf(r.order)
	return hom{s.name + " to " + r.name, s.order, r.order, a, b, a.functions(b)}
}

// homs returns each two domains of at most three elements, and each two of the named ones for which the definition does not take long.
func homs(t *testing.T) []hom {
	t.Helper()
	var all []hom
	for _, s := range smallDomains(3) {
		for _, r := range smallDomains(3) {
			all = append(all, homOf(s, r))
		}
	}
	for _, s := range namedDomains(t) {
		for _, r := range namedDomains(t) {
			if math.Pow(float64(len(r.order.Up)), float64(len(s.order.Up))) <= 5000 {
				all = append(all, homOf(s, r))
			}
		}
	}
	return all
}

// selfs returns domains with their functions to themselves: each one of at most four elements, and two greater ones.
func selfs(t *testing.T) []hom {
	t.Helper()
	var all []hom
	for _, s := range append(smallDomains(4), namedDomains(t)...) {
		if len(s.order.Up) <= 5 {
			all = append(all, homOf(s, s))
		}
	}
	return all
}

// pairs calls a test for pairs of functions: for all if they are few, and otherwise for some that differ in distance.
func (h hom) pairs(visit func(f []int, g []int)) {
	stride := 1 + len(h.funs)*len(h.funs)/600
	at := 0
	for _, f := range h.funs {
		for _, g := range h.funs {
			if at%stride == 0 {
				visit(f, g)
			}
			at++
		}
	}
}

// index returns the index of a function among all.
func (h hom) index(f []int) int {
	at, has := slices.BinarySearchFunc(h.funs, f, slices.Compare[[]int])
	if !has {
		return -1
	}
	return at
}

// below reports whether the first function is below the second one for each element.
func (h hom) below(f []int, g []int) bool {
	for i := range f {
		if !h.b[f[i]][g[i]] {
			return false
		}
	}
	return true
}

// each returns the function that has for each element what is made of what two functions have, and true, or false if this is -1 for some.
func each(f []int, g []int, made func(x int, y int) int) ([]int, bool) {
	var list []int
	for i := range f {
		k := made(f[i], g[i])
		if k < 0 {
			return nil, false
		}
		list = append(list, k)
	}
	return list, true
}

// meet returns the meet of two elements, or -1.
func (a above) meet(x int, y int) int {
	return a.back().join(x, y)
}

// identity returns the function of n elements that changes nothing.
func identity(n int) []int {
	list := make([]int, n)
	for i := range list {
		list[i] = i
	}
	return list
}

// noLists returns what is no list of n numbers from 0 to size - 1, by what is wrong with it.
func noLists(n int, size int) map[string][]int {
	return map[string][]int{
		"nil":                nil,
		"empty":              {},
		"too short":          repeated(0, n-1),
		"too long":           repeated(0, n+1),
		"far too long":       repeated(0, 300),
		"negative":           repeated(-1, n),
		"very negative":      repeated(math.MinInt, n),
		"one too great":      repeated(size, n),
		"far too great":      repeated(math.MaxInt, n),
		"negative in last":   append(repeated(0, n-1), -1),
		"too great in last":  append(repeated(0, n-1), size),
		"too great in front": append([]int{size}, repeated(0, n-1)...),
		"past all words":     append([]int{256}, repeated(0, n-1)...),
	}
}

// noFunctions returns lists that are no monotone function of one domain to another one, by what is wrong with them.
func noFunctions(d impl.Order, e impl.Order) map[string][]int {
	n, m := len(d.Up), len(e.Up)
	wrong := noLists(n, m)
	least, from := impl.OrderLeast(e), impl.OrderLeast(d)
	for k := range m {
		if n > 1 && k != least && (k < 3 || k == m-1) {
			falls := repeated(least, n)
			falls[from] = k
			wrong[fmt.Sprint("from ", k, " down")] = falls
		}
	}
	return wrong
}

// wantList fails if a function did not give the wanted list.
func wantList(t *testing.T, what string, list []int, ok bool, want []int) {
	t.Helper()
	if !ok || !slices.Equal(list, want) {
		t.Errorf("%s = %v, %v, want %v", what, list, ok, want)
	}
}

// wantNoFunction fails if some function of the chapter accepts a list as one of a domain to another one, ahead of or behind a good one.
func wantNoFunction(t *testing.T, what string, d impl.Order, e impl.Order, good []int, bad []int) {
	t.Helper()
	before := slices.Clone(bad)
	if impl.FunMonotone(d, e, bad) || impl.FunStrict(d, e, bad) || impl.FunStable(d, e, bad) {
		t.Errorf("%s: FunMonotone, FunStrict or FunStable holds", what)
	}
	list, ok := impl.FunSteps(d, e, bad)
	wantNoList(t, what+": FunSteps", list, ok)
	for _, c := range [][2][]int{{bad, good}, {good, bad}, {bad, bad}} {
		if impl.FunBelow(d, e, c[0], c[1]) {
			t.Errorf("%s: FunBelow of %v and %v", what, c[0], c[1])
		}
		list, ok = impl.FunJoin(d, e, c[0], c[1])
		wantNoList(t, what+": FunJoin", list, ok)
		list, ok = impl.FunMeet(d, e, c[0], c[1])
		wantNoList(t, what+": FunMeet", list, ok)
		list, ok = impl.FunPair(d, e, e, c[0], c[1])
		wantNoList(t, what+": FunPair", list, ok)
	}
	list, ok = impl.FunPair(d, e, chain(1), bad, repeated(0, len(d.Up)))
	wantNoList(t, what+": FunPair with one element", list, ok)
	list, ok = impl.FunPair(d, chain(1), e, repeated(0, len(d.Up)), bad)
	wantNoList(t, what+": FunPair behind one element", list, ok)
	list, ok = impl.FunAfter(d, e, e, bad, identity(len(e.Up)))
	wantNoList(t, what+": FunAfter", list, ok)
	list, ok = impl.FunAfter(d, d, e, identity(len(d.Up)), bad)
	wantNoList(t, what+": FunAfter behind the function that changes nothing", list, ok)
	wantNoParts(t, what, d, e, chain(1), bad)
	wantNoParts(t, what, d, chain(1), e, bad)
	if !slices.Equal(bad, before) {
		t.Errorf("%s: became %v", what, bad)
	}
}

// wantNoParts fails if FunParts gives parts of a list.
func wantNoParts(t *testing.T, what string, d impl.Order, e impl.Order, f impl.Order, list []int) {
	t.Helper()
	first, second, ok := impl.FunParts(d, e, f, list)
	if ok || len(first) != 0 || len(second) != 0 {
		t.Errorf("%s: FunParts = %v, %v, %v, want none", what, first, second, ok)
	}
}

// wantNoFix fails if FunFix gives a fixed point.
func wantNoFix(t *testing.T, what string, d impl.Order, f []int) {
	t.Helper()
	if x, n, ok := impl.FunFix(d, f); ok || x != 0 || n != 0 {
		t.Errorf("%s: FunFix of %v = %d, %d, %v, want none", what, f, x, n, ok)
	}
}
