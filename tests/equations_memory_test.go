package tests

import (
	"slices"
	"testing"

	"loop.example/scottdomains/impl"
)

// equationUse is what the functions of the chapter are called with: a shape, a number, and two projection pairs that meet.
type equationUse struct {
	name                 string
	shape                string
	n                    int
	d, e, f              impl.Order
	up, down, more, less []int
}

// lists returns all lists of the arguments.
func (u equationUse) lists() [][]int {
	return slices.Concat(u.d.Up, u.e.Up, u.f.Up, [][]int{u.up, u.down, u.more, u.less})
}

// cloned returns the same arguments in new memory.
func (u equationUse) cloned() equationUse {
	u.d, u.e, u.f = impl.Order{Up: cloneLists(u.d.Up)}, impl.Order{Up: cloneLists(u.e.Up)}, impl.Order{Up: cloneLists(u.f.Up)}
	u.up, u.down, u.more, u.less = slices.Clone(u.up), slices.Clone(u.down), slices.Clone(u.more), slices.Clone(u.less)
	return u
}

// results calls each function of the chapter, and returns the lists of all results.
func (u equationUse) results() [][]int {
	impl.PairIs(u.d, u.e, u.up, u.down)
	whole, back, _ := impl.PairAfter(u.d, u.e, u.f, u.up, u.down, u.more, u.less)
	projection, _ := impl.ProjectionOf(u.d, u.e, u.up)
	impl.ShapeValid(u.shape)
	domain, _ := impl.ShapeDomain(u.shape, u.d)
	mappedUp, mappedDown, _ := impl.ShapeMap(u.shape, u.d, u.e, u.up, u.down)
	stage, _ := impl.ShapeStage(u.shape, u.n)
	linkUp, linkDown, _ := impl.ShapeLink(u.shape, u.n)
	sizes, _ := impl.ShapeSizes(u.shape)
	impl.ShapeRank(u.shape, u.n, 0)
	return slices.Concat(domain.Up, stage.Up, [][]int{whole, back, projection, mappedUp, mappedDown, linkUp, linkDown, sizes})
}

// equationUses returns arguments with which functions succeed.
func equationUses(t *testing.T) []equationUse {
	t.Helper()
	var all []equationUse
	passages := append(smallPassages(), largerPassages(t)...)
	for i, s := range append(namedShapes(), smallShapes(3)...) {
		p := passages[(i*13)%len(passages)]
		q := p.b.same()
		if i%2 == 0 {
			q = p.b.doubled()
		}
		all = append(all, equationUse{s + " for " + p.name, s, i % 6, p.d(), p.e(), q.e(), p.up, p.down, q.up, q.down})
	}
	return all
}

// P67 to P77: no function changes its arguments, valid or not.
func TestEquationArgumentsStay(t *testing.T) {
	uses := equationUses(t)
	for _, s := range refused(t) {
		n := len(s.order.Up)
		uses = append(uses, equationUse{s.name, "(l x)", 2, s.order, s.order, s.order, identity(n), identity(n), repeated(-1, n), repeated(n, n)})
		uses = append(uses, equationUse{s.name, "(l x", -1, chain(2), s.order, chain(2), []int{1, 0}, repeated(1, n), []int{9}, []int{-1, 0}})
	}
	for _, u := range uses {
		wantArgumentsStay(t, u.name, u)
	}
}

// P68 to P76: no result shares memory with an argument or with another one.
func TestEquationResultsAreSeparate(t *testing.T) {
	for _, u := range equationUses(t) {
		wantResultsSeparate(t, u.name, u)
	}
}

// P68 to P75: a result that is equal to an argument, or to another result, is another list.
func TestEquationResultsAreNew(t *testing.T) {
	for _, s := range []string{"x", "(* u x)", "(* x u)", "(> u x)", "(> (> x u) x)"} {
		d, list := chain(2), []int{0, 1}
		domain, _ := impl.ShapeDomain(s, d)
		up, down, _ := impl.ShapeMap(s, d, d, list, list)
		whole, back, _ := impl.PairAfter(d, d, d, list, list, list, list)
		projection, _ := impl.ProjectionOf(d, d, list)
		for _, got := range [][]int{up, down, whole, back, projection} {
			if !slices.Equal(got, list) || !sameLists(domain.Up, d.Up) {
				t.Fatalf("%s: %v, %v", s, got, domain.Up)
			}
		}
		wantSeparate(t, s, slices.Concat(d.Up, domain.Up, [][]int{list, up, down, whole, back, projection})...)
	}
	for _, s := range []string{"x", "u", "b", "(> b b)"} {
		up, down, _ := impl.ShapeLink(s, 3)
		same, back, _ := impl.ShapeMap(s, chain(1), chain(1), []int{0}, []int{0})
		wantSeparate(t, s, up, down, same, back)
	}
}

// No state is kept: a call tells the same after the results of others were changed.
func TestEquationCallsKeepNothing(t *testing.T) {
	for _, u := range equationUses(t) {
		wantNothingKept(t, u.name, u.results)
	}
}
