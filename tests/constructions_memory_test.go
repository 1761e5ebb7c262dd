package tests

import (
	"slices"
	"testing"

	"loop.example/scottdomains/impl"
)

// construct calls each function of the chapter, and returns the lists of all results.
func construct(d impl.Order, e impl.Order, f impl.Order, pairs []int, single []int) [][]int {
	lift, _ := impl.DomainLift(d)
	product, _ := impl.DomainProduct(d, e)
	sum, _ := impl.DomainSum(d, e)
	fun, _ := impl.DomainFun(d, e)
	funs, _ := impl.DomainFuns(d, e)
	impl.DomainIndex(d, e, single)
	cut, _ := impl.DomainCut(d, len(d.Up)-1)
	curried, _ := impl.DomainCurry(d, e, f, pairs)
	uncurried, _ := impl.DomainUncurry(d, e, f, single)
	flat, _ := impl.DomainFlat(len(d.Up))
	chain, _ := impl.DomainChain(len(d.Up))
	return slices.Concat(lift.Up, product.Up, sum.Up, fun.Up, funs, cut.Up, [][]int{curried, uncurried}, flat.Up, chain.Up)
}

// P14 to P22: no function changes its arguments.
func TestConstructionArgumentsStay(t *testing.T) {
	for _, s := range append(namedDomains(t), refused(t)...) {
		d, e, f := s.order, flat(2), chain(2)
		before := cloneLists(slices.Concat(d.Up, e.Up, f.Up))
		pairs, single := repeated(1, 3*len(d.Up)), repeated(0, len(d.Up))
		construct(d, e, f, pairs, single)
		if !sameLists(before, slices.Concat(d.Up, e.Up, f.Up)) {
			t.Errorf("%s: became %v, %v, %v", s.name, d.Up, e.Up, f.Up)
		}
		if !slices.Equal(pairs, repeated(1, 3*len(d.Up))) || !slices.Equal(single, repeated(0, len(d.Up))) {
			t.Errorf("%s: lists became %v, %v", s.name, pairs, single)
		}
	}
}

// P14 to P22: no result shares memory with an argument or within itself.
func TestConstructionResultsAreSeparate(t *testing.T) {
	for _, s := range namedDomains(t) {
		d, e, f := s.order, flat(1), chain(2)
		pairs, single := repeated(1, 2*len(d.Up)), repeated(0, len(d.Up))
		results := construct(d, e, f, pairs, single)
		wantSeparate(t, s.name, slices.Concat(d.Up, e.Up, f.Up, [][]int{pairs, single}, results)...)
	}
}

// No state is kept: a call tells the same after the results of others were changed.
func TestConstructionCallsKeepNothing(t *testing.T) {
	d, e, f := must(t, [][]int{{1, 2}, {3}, {3}, {}}), flat(1), chain(2)
	pairs, single := repeated(1, 8), repeated(0, 4)
	first := construct(d, e, f, pairs, single)
	want := cloneLists(first)
	for _, list := range first {
		for i := range list {
			list[i] = -7
		}
	}
	if again := construct(d, e, f, pairs, single); !sameLists(again, want) {
		t.Errorf("results became %v, want %v", again, want)
	}
}
