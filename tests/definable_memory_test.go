package tests

import (
	"fmt"
	"slices"
	"testing"

	"loop.example/scottdomains/impl"
)

// definableUse is what the functions of the chapter are called with.
type definableUse struct {
	kind, a, b string
	k          int
	list       []int
}

// lists returns the list of the arguments.
func (u definableUse) lists() [][]int {
	return [][]int{u.list}
}

// cloned returns the same arguments with the list in new memory.
func (u definableUse) cloned() definableUse {
	u.list = slices.Clone(u.list)
	return u
}

// results calls each function of the chapter, and returns the lists of all results.
func (u definableUse) results() [][]int {
	impl.ElementValue(u.kind, u.k, u.list)
	impl.Sequential(u.kind, u.k)
	impl.SequentialTerm(u.kind, u.k)
	impl.ParallelTerm(u.kind, u.k)
	impl.SequentialCount(u.kind)
	impl.StableCount(u.kind)
	impl.SeparateTerms(u.a, u.b)
	first, _ := impl.Separate(u.a, u.b)
	second, _ := impl.Separate(u.b, u.a)
	return [][]int{first, second}
}

// definableUses returns arguments for each first-order type, some of them with lists that are none.
func definableUses() []definableUse {
	var all []definableUse
	for arity, kind := range firstOrders {
		texts := definableTexts(arity)
		for part := range 3 {
			k := part * firstOrderSizes[arity] / 3
			other := firstOrderSizes[arity] - 1 - k
			for _, list := range append(allLists(arity, 3), repeated(-1, arity), repeated(3, arity), repeated(2, arity+3)) {
				all = append(all, definableUse{kind, texts[k][0], texts[other][0], k, list})
			}
		}
	}
	return all
}

// P89: no function changes its arguments, valid or not.
func TestDefinableArgumentsStay(t *testing.T) {
	for _, u := range definableUses() {
		wantArgumentsStay(t, fmt.Sprint(u), u)
	}
}

// P96: no result shares memory with an argument or with another one.
func TestDefinableResultsAreSeparate(t *testing.T) {
	for _, u := range definableUses() {
		wantResultsSeparate(t, fmt.Sprint(u), u)
	}
}

// No state is kept: a call tells the same after the results of others were changed.
func TestDefinableCallsKeepNothing(t *testing.T) {
	uses := definableUses()
	tell := func(u definableUse) string {
		value, ok := impl.ElementValue(u.kind, u.k, u.list)
		text, there := impl.SequentialTerm(u.kind, u.k)
		parallel, fine := impl.ParallelTerm(u.kind, u.k)
		first, second, apart := impl.SeparateTerms(u.a, u.b)
		return fmt.Sprint(value, ok, text, there, parallel, fine, first, second, apart, impl.SequentialCount(u.kind), impl.StableCount(u.kind), impl.Sequential(u.kind, u.k))
	}
	before := make([]string, len(uses))
	for i, u := range uses {
		before[i] = tell(u)
	}
	for i, u := range slices.Backward(uses) {
		wantNothingKept(t, fmt.Sprint(u), u.results)
		if tell(u) != before[i] {
			t.Errorf("%v: told something else the second time", u)
		}
	}
}
