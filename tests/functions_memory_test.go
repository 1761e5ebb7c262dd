package tests

import (
	"slices"
	"testing"

	"loop.example/scottdomains/impl"
)

// useFunctions calls each function of the chapter, and returns all lists that they give.
func useFunctions(d impl.Order, e impl.Order, f []int, g []int, pairs []int) [][]int {
	impl.FunMonotone(d, e, f)
	same := identity(len(e.Up))
	after, _ := impl.FunAfter(d, e, e, f, same)
	impl.FunFix(d, identity(len(d.Up)))
	join, _ := impl.FunJoin(d, e, f, g)
	meet, _ := impl.FunMeet(d, e, f, g)
	step, _ := impl.FunStep(d, e, 0, len(e.Up)-1)
	steps, _ := impl.FunSteps(d, e, f)
	impl.FunStrict(d, e, f)
	impl.FunStable(d, e, f)
	pair, _ := impl.FunPair(d, e, e, f, g)
	first, second, _ := impl.FunParts(d, e, e, pairs)
	impl.FunBelow(d, e, f, g)
	impl.FunCount(d, e)
	return [][]int{after, join, meet, step, steps, pair, first, second, same}
}

// P25 to P36: no function changes its arguments.
func TestFunctionArgumentsStay(t *testing.T) {
	for _, s := range append(namedDomains(t), refused(t)...) {
		for _, e := range []impl.Order{flat(2), chain(2), s.order} {
			n := len(s.order.Up)
			d := impl.Order{Up: cloneLists(s.order.Up)}
			lists := [][]int{repeated(1, n), repeated(0, n), repeated(3, n)}
			before := cloneLists(slices.Concat(d.Up, e.Up, lists))
			useFunctions(d, e, lists[0], lists[1], lists[2])
			if !sameLists(before, slices.Concat(d.Up, e.Up, lists)) {
				t.Errorf("%s: became %v, %v, %v", s.name, d.Up, e.Up, lists)
			}
		}
	}
}

// P26 to P35: no result shares memory with an argument or with another one.
func TestFunctionResultsAreSeparate(t *testing.T) {
	for _, s := range namedDomains(t) {
		n := len(s.order.Up)
		e := flat(2)
		for _, lists := range [][][]int{{repeated(1, n), repeated(0, n), repeated(4, n)}, {repeated(1, n), repeated(1, n), repeated(0, n)}} {
			results := useFunctions(s.order, e, lists[0], lists[1], lists[2])
			wantSeparate(t, s.name, slices.Concat(s.order.Up, e.Up, lists, results)...)
		}
	}
}

// P26, P28, P29: a result that is equal to an argument is another list, also if both arguments are one.
func TestFunctionResultsAreNew(t *testing.T) {
	d, f := flat(2), []int{0, 1, 2}
	join, _ := impl.FunJoin(d, d, f, f)
	meet, _ := impl.FunMeet(d, d, f, f)
	after, _ := impl.FunAfter(d, d, d, f, f)
	steps, _ := impl.FunSteps(d, d, f)
	pair, _ := impl.FunPair(d, d, chain(1), f, repeated(0, 3))
	first, second, _ := impl.FunParts(d, d, chain(1), f)
	if !slices.Equal(join, f) || !slices.Equal(meet, f) || !slices.Equal(after, f) || !slices.Equal(pair, f) || !slices.Equal(first, f) {
		t.Fatalf("join %v, meet %v, after %v, pair %v, first %v", join, meet, after, pair, first)
	}
	wantSeparate(t, "results", append(slices.Clone(d.Up), f, join, meet, after, steps, pair, first, second)...)
}

// No state is kept: a call tells the same after the results of others were changed.
func TestFunctionCallsKeepNothing(t *testing.T) {
	d, e := must(t, [][]int{{1, 2}, {3}, {3}, {}}), flat(2)
	f, g, pairs := []int{0, 1, 0, 1}, []int{0, 0, 1, 1}, []int{0, 1, 3, 4}
	first := useFunctions(d, e, f, g, pairs)
	want := cloneLists(first)
	for _, list := range first {
		for i := range list {
			list[i] = -7
		}
	}
	if again := useFunctions(d, e, f, g, pairs); !sameLists(again, want) {
		t.Errorf("results became %v, want %v", again, want)
	}
}
