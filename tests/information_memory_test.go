package tests

import (
	"slices"
	"testing"

	"loop.example/scottdomains/impl"
)

// informationUse is what the functions of the chapter are called with.
type informationUse struct {
	d                impl.Order
	s, r             impl.Info
	list, f          []int
	sets, froms, tos []int
}

// lists returns all lists of the arguments.
func (u informationUse) lists() [][]int {
	return append(slices.Clone(u.d.Up), u.s.Con, u.s.Entail, u.r.Con, u.r.Entail, u.list, u.f, u.sets, u.froms, u.tos)
}

// results calls each function of the chapter, and returns the lists of all results.
func (u informationUse) results() [][]int {
	impl.InfoValid(u.s)
	impl.InfoEntails(u.s, 1)
	elements, _ := impl.InfoElements(u.s)
	d, _ := impl.InfoDomain(u.s)
	of, _ := impl.InfoOf(u.d)
	back, _ := impl.InfoBack(u.d)
	from, _ := impl.InfoFrom(u.s.Tokens, u.sets, u.froms, u.tos)
	impl.RelationIs(u.s, u.r, u.list)
	fun, _ := impl.RelationFun(u.s, u.r, u.list)
	relation, _ := impl.RelationOf(u.s, u.r, u.f)
	after, _ := impl.RelationAfter(u.s, u.r, u.r, u.list, u.r.Entail)
	ahead, _ := impl.RelationAfter(u.s, u.s, u.r, u.s.Entail, u.list)
	times, _ := impl.InfoTimes(u.s, u.r)
	return append(slices.Clone(d.Up), elements, of.Con, of.Entail, back, from.Con, from.Entail, fun, relation, after, ahead, times.Con, times.Entail)
}

// informationUses returns arguments with which all functions succeed, or almost all.
func informationUses(t *testing.T) []informationUse {
	t.Helper()
	var all []informationUse
	systems := append(smallSystems(), namedSystems()...)
	domains := domainsWithTokens(t)
	for i, s := range systems {
		r := systems[(i*5+2)%len(systems)]
		least := elementsOf(r.info)[0]
		all = append(all, informationUse{
			d: domains[i*7%len(domains)].order, s: s.info, r: r.info,
			list: repeated(least, len(s.info.Con)), f: repeated(0, len(elementsOf(s.info))),
			sets: []int{1, 0}, froms: []int{1}, tos: []int{0},
		})
	}
	return all
}

// cloned returns the same arguments in new memory.
func (u informationUse) cloned() informationUse {
	return informationUse{
		d:    impl.Order{Up: cloneLists(u.d.Up)},
		s:    impl.Info{Tokens: u.s.Tokens, Con: slices.Clone(u.s.Con), Entail: slices.Clone(u.s.Entail)},
		r:    impl.Info{Tokens: u.r.Tokens, Con: slices.Clone(u.r.Con), Entail: slices.Clone(u.r.Entail)},
		list: slices.Clone(u.list), f: slices.Clone(u.f),
		sets: slices.Clone(u.sets), froms: slices.Clone(u.froms), tos: slices.Clone(u.tos),
	}
}

// P37 to P48: no function changes its arguments, valid or not.
func TestInformationArgumentsStay(t *testing.T) {
	uses := informationUses(t)
	for _, s := range invalidInfos() {
		uses = append(uses, informationUse{s: s.info, r: s.info, list: []int{1, 0}, f: []int{1, 0}, sets: []int{3, -1}, froms: []int{9}, tos: []int{-2}})
	}
	for _, s := range refused(t) {
		uses = append(uses, informationUse{d: s.order, s: madeFrom(1, nil, nil), r: impl.Info{}, froms: []int{1}})
	}
	for _, u := range uses {
		u = u.cloned()
		before := cloneLists(u.lists())
		tokens := u.s.Tokens
		u.results()
		if !sameLists(before, u.lists()) || u.s.Tokens != tokens {
			t.Errorf("%v became %v", before, u.lists())
		}
	}
}

// P39 to P48: no result shares memory with an argument or with another one.
func TestInformationResultsAreSeparate(t *testing.T) {
	for _, u := range informationUses(t) {
		wantResultsSeparate(t, "results", u)
	}
}

// P41, P43, P47, P48: a result that is equal to an argument, or to another part of itself, is another list.
func TestInformationResultsAreNew(t *testing.T) {
	s := impl.Info{Tokens: 2, Con: []int{0, 1, 2}, Entail: []int{0, 1, 2}}
	list := []int{0, 1, 2}
	elements, _ := impl.InfoElements(s)
	of, _ := impl.InfoOf(flat(2))
	from, _ := impl.InfoFrom(2, list, nil, nil)
	fun, _ := impl.RelationFun(s, s, list)
	relation, _ := impl.RelationOf(s, s, list)
	after, _ := impl.RelationAfter(s, s, s, list, list)
	all := [][]int{s.Con, s.Entail, list, elements, of.Con, of.Entail, fun, relation, after}
	for i, one := range all {
		if !slices.Equal(one, list) {
			t.Fatalf("list %d is %v", i, one)
		}
	}
	wantSeparate(t, "equal lists", append(all, from.Con, from.Entail)...)
}

// No state is kept: a call tells the same after the results of others were changed.
func TestInformationCallsKeepNothing(t *testing.T) {
	for _, u := range informationUses(t) {
		wantNothingKept(t, "information systems", u.results)
	}
}
