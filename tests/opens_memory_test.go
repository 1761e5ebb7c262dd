package tests

import (
	"slices"
	"testing"

	"loop.example/scottdomains/impl"
)

// openUse is what the functions of the chapter are called with.
type openUse struct {
	name           string
	d, e           impl.Order
	sets, marks, f []int
}

// lists returns all lists of the arguments.
func (u openUse) lists() [][]int {
	return slices.Concat(u.d.Up, u.e.Up, [][]int{u.sets, u.marks, u.f})
}

// cloned returns the same arguments in new memory.
func (u openUse) cloned() openUse {
	return openUse{
		name: u.name,
		d:    impl.Order{Up: cloneLists(u.d.Up)}, e: impl.Order{Up: cloneLists(u.e.Up)},
		sets: slices.Clone(u.sets), marks: slices.Clone(u.marks), f: slices.Clone(u.f),
	}
}

// results calls each function of the chapter, and returns the lists of all results.
func (u openUse) results() [][]int {
	all := 1<<min(len(u.d.Up), 9) - 1
	opens, _ := impl.Opens(u.d)
	impl.OpenInner(u.d, all)
	order, _ := impl.OpenOrder(len(u.d.Up), u.sets)
	points, _ := impl.OpenPoints(u.d)
	impl.PointIs(u.d, u.marks)
	impl.PointElement(u.d, u.marks)
	impl.OpenBack(u.d, u.e, u.f, 0)
	impl.OpenContinuous(u.d, u.e, u.f)
	compact, _ := impl.OpenCompact(u.d, all)
	return slices.Concat([][]int{opens, compact}, order.Up, points)
}

// openUses returns arguments with which all functions succeed.
func openUses(t *testing.T) []openUse {
	t.Helper()
	var all []openUse
	large := largeSpaces(t)
	for i, p := range large {
		q := large[(i*5+2)%len(large)]
		all = append(all, openUse{p.name, p.d, q.d, p.opens, p.point(0), repeated(len(q.a)-1, len(p.a))})
		all = append(all, openUse{p.name, p.d, p.d, p.opens, p.point(len(p.a) - 1), identity(len(p.a))})
	}
	return all
}

// P58 to P66: no function changes its arguments, valid or not.
func TestOpenArgumentsStay(t *testing.T) {
	uses := openUses(t)
	for _, s := range noOpens(t) {
		n := len(s.order.Up)
		uses = append(uses, openUse{s.name, s.order, s.order, []int{3, 1}, []int{2, 0}, repeated(-1, n)})
		uses = append(uses, openUse{s.name, chain(3), s.order, []int{1, 1, 9}, []int{1, 1, 0, 0}, []int{9, 0, 1}})
	}
	for _, u := range uses {
		wantArgumentsStay(t, u.name, u)
	}
}

// P58, P60, P61, P66: no result shares memory with an argument or with another one.
func TestOpenResultsAreSeparate(t *testing.T) {
	for _, u := range openUses(t) {
		wantResultsSeparate(t, u.name, u)
	}
}

// P58, P60, P61: a result that is equal to an argument is another list.
func TestOpenResultsAreNew(t *testing.T) {
	d := chain(2)
	sets, marks := []int{0, 2, 3}, []int{0, 0, 1}
	opens, _ := impl.Opens(d)
	points, _ := impl.OpenPoints(d)
	order, _ := impl.OpenOrder(2, sets)
	if !slices.Equal(opens, sets) || len(points) != 2 || !slices.Equal(points[0], marks) || !sameLists(order.Up, d.Up) {
		t.Fatalf("Opens %v, OpenPoints %v, OpenOrder %v", opens, points, order.Up)
	}
	wantSeparate(t, "equal lists", slices.Concat(d.Up, order.Up, points, [][]int{sets, marks, opens})...)
}

// No state is kept: a call tells the same after the results of others were changed.
func TestOpenCallsKeepNothing(t *testing.T) {
	for _, u := range openUses(t) {
		wantNothingKept(t, u.name, u.results)
	}
}
