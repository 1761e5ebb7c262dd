package tests

import (
	"fmt"
	"slices"
	"testing"

	"loop.example/scottdomains/impl"
)

// approximable reports whether a list is an approximable relation of two valid systems, sentence by sentence.
func approximable(s impl.Info, r impl.Info, list []int) bool {
	if len(list) != len(s.Con) {
		return false
	}
	elements := elementsOf(r)
	for i := range list {
		if !slices.Contains(elements, list[i]) {
			return false
		}
		for k := range list {
			if inside(s.Entail[i], s.Entail[k]) && !inside(list[i], list[k]) {
				return false
			}
		}
	}
	return true
}

// relations returns the approximable relations of two systems, found among all lists of elements of the second one.
func relations(s impl.Info, r impl.Info) [][]int {
	elements := elementsOf(r)
	var all [][]int
	for _, chosen := range allLists(len(s.Con), len(elements)) {
		var list []int
		for _, at := range chosen {
			list = append(list, elements[at])
		}
		if approximable(s, r, list) {
			all = append(all, list)
		}
	}
	return all
}

// lookedUp returns the function of the elements that a relation of two systems tells.
func lookedUp(s impl.Info, r impl.Info, list []int) []int {
	var f []int
	for _, x := range elementsOf(s) {
		f = append(f, slices.Index(elementsOf(r), list[slices.Index(s.Con, x)]))
	}
	return f
}

// spread returns the relation of two systems that a function of their elements tells.
func spread(s impl.Info, r impl.Info, f []int) []int {
	var list []int
	for i := range s.Con {
		list = append(list, elementsOf(r)[f[slices.Index(elementsOf(s), s.Entail[i])]])
	}
	return list
}

// manyTo calls a test for pairs of systems with so few sets and elements that all lists can be looked at:
// all of at most two tokens, and some of the others.
func manyTo(visit func(s infoSample, r infoSample)) {
	all := systems()
	small := len(smallSystems())
	for i, s := range all {
		for k, r := range all {
			lists := 1
			for range s.info.Con {
				lists = min(lists*len(elementsOf(r.info)), 5000)
			}
			if i < small && k < small || lists < 5000 && (i+7*k)%5 == 0 {
				visit(s, r)
			}
		}
	}
}

// P44: against the definition, for all lists of sets of two tokens, one negative and one too great among them.
func TestRelationIs(t *testing.T) {
	some, none := 0, 0
	for _, s := range smallSystems() {
		for _, r := range smallSystems() {
			for _, list := range allLists(len(s.info.Con), 6) {
				for i := range list {
					list[i]--
				}
				got := impl.RelationIs(s.info, r.info, list)
				if got != approximable(s.info, r.info, list) {
					t.Errorf("%s to %s: RelationIs of %v = %v", s.name, r.name, list, got)
				}
				if got {
					some++
				} else {
					none++
				}
			}
		}
	}
	if some < 500 || none < 500 {
		t.Errorf("%d relations, %d others", some, none)
	}
}

// P44: the same for systems of more tokens, where a relation has another set in one place.
func TestRelationIsWithOneChange(t *testing.T) {
	manyTo(func(s infoSample, r infoSample) {
		all := relations(s.info, r.info)
		stride := 1 + len(all)/8
		for at := 0; at < len(all); at += stride {
			for i := range all[at] {
				for set := -1; set <= 1<<r.info.Tokens; set++ {
					list := slices.Clone(all[at])
					list[i] = set
					if got := impl.RelationIs(s.info, r.info, list); got != approximable(s.info, r.info, list) {
						t.Errorf("%s to %s: RelationIs of %v = %v", s.name, r.name, list, got)
					}
				}
			}
		}
	})
}

// P44, P45: against the definition, monotone, and back.
func TestRelationFun(t *testing.T) {
	manyTo(func(s infoSample, r infoSample) {
		d, _ := impl.InfoDomain(s.info)
		e, _ := impl.InfoDomain(r.info)
		for _, list := range relations(s.info, r.info) {
			what := fmt.Sprint(s.name, " to ", r.name, ": RelationFun of ", list)
			if !impl.RelationIs(s.info, r.info, list) {
				t.Errorf("%s: no relation", what)
			}
			f, ok := impl.RelationFun(s.info, r.info, list)
			wantList(t, what, f, ok, lookedUp(s.info, r.info, list))
			if !impl.FunMonotone(d, e, f) {
				t.Errorf("%s = %v, not monotone", what, f)
			}
			again, ok := impl.RelationOf(s.info, r.info, f)
			wantList(t, what+" and RelationOf", again, ok, list)
		}
	})
}

// P46: against the definition, for all monotone functions, and back.
func TestRelationOf(t *testing.T) {
	manyTo(func(s infoSample, r infoSample) {
		d, _ := impl.InfoDomain(s.info)
		e, _ := impl.InfoDomain(r.info)
		found := 0
		for _, f := range aboveOf(d).functions(aboveOf(e)) {
			what := fmt.Sprint(s.name, " to ", r.name, ": RelationOf of ", f)
			list, ok := impl.RelationOf(s.info, r.info, f)
			wantList(t, what, list, ok, spread(s.info, r.info, f))
			if !impl.RelationIs(s.info, r.info, list) {
				t.Errorf("%s = %v, not approximable", what, list)
			}
			again, ok := impl.RelationFun(s.info, r.info, list)
			wantList(t, what+" and RelationFun", again, ok, f)
			found++
		}
		if want := len(relations(s.info, r.info)); found != want {
			t.Errorf("%s to %s: %d functions, but %d relations", s.name, r.name, found, want)
		}
	})
}

// P44 to P46: systems of as many sets as there may be, and tokens that entail each other.
func TestRelationsOfNamedSystems(t *testing.T) {
	six, loose := madeFrom(6, []int{63}, nil), madeFrom(6, nil, nil)
	around6 := madeFrom(6, []int{63}, around(6))
	each, one := madeFrom(2, []int{3}, around(2)), madeFrom(1, nil, nil)
	empty := madeFrom(1, nil, []rule{{0, 0}})
	for _, c := range []struct {
		name    string
		s, r    impl.Info
		list, f []int
	}{
		{"six tokens, nothing changed", six, six, identity(64), identity(64)},
		{"six tokens, all to all", six, six, repeated(63, 64), repeated(63, 64)},
		{"six loose tokens to six tokens", loose, six, []int{0, 1, 2, 4, 8, 16, 32}, []int{0, 1, 2, 4, 8, 16, 32}},
		{"six tokens to the last loose token", six, loose, repeated(32, 64), repeated(6, 64)},
		{"around to one token", around6, one, append([]int{0}, repeated(1, 63)...), []int{0, 1}},
		{"one token to around", one, around6, []int{0, 63}, []int{0, 1}},
		{"each other, nothing changed", each, each, []int{0, 3, 3, 3}, []int{0, 1}},
		{"each other to one token", each, one, []int{0, 1, 1, 1}, []int{0, 1}},
		{"each other, all to the token", each, one, []int{1, 1, 1, 1}, []int{1, 1}},
		{"what the empty set entails, nothing changed", empty, empty, []int{1, 1}, []int{0}},
		{"what the empty set entails to one token", empty, one, []int{0, 0}, []int{0}},
		{"one token to what the empty set entails", one, empty, []int{1, 1}, []int{0, 0}},
	} {
		if !impl.RelationIs(c.s, c.r, c.list) {
			t.Errorf("%s: RelationIs does not hold", c.name)
		}
		f, ok := impl.RelationFun(c.s, c.r, c.list)
		wantList(t, c.name+": RelationFun", f, ok, c.f)
		list, ok := impl.RelationOf(c.s, c.r, c.f)
		wantList(t, c.name+": RelationOf", list, ok, c.list)
	}
}

// noRelations returns lists that are no approximable relation of six tokens, of which twice three entail each other around, to two loose tokens.
func noRelations() map[string][]int {
	good := func() []int {
		list := make([]int, 64)
		for set := range list {
			if set != 0 {
				list[set] = 1
			}
		}
		return list
	}
	changed := func(at int, set int) []int {
		list := good()
		list[at] = set
		return list
	}
	return map[string][]int{
		"nil":                      nil,
		"empty":                    {},
		"too short":                good()[:63],
		"too long":                 append(good(), 1),
		"far too long":             repeated(0, 1000),
		"one set alone":            {0},
		"negative":                 changed(63, -1),
		"negative at first":        changed(0, -1),
		"far below":                changed(5, -1<<63),
		"too great":                changed(63, 4),
		"far too great":            changed(63, 1<<62),
		"not consistent":           changed(63, 3),
		"least at the end":         changed(63, 0),
		"least for one token":      changed(2, 0),
		"other than it entails":    changed(32, 0),
		"the empty set has others": changed(0, 2),
	}
}

// P44 to P46: lists that are no relation, and the one beside them that is.
func TestRelationsOfOtherLists(t *testing.T) {
	s := madeFrom(6, []int{63}, slices.Concat([]rule{{1, 1}, {2, 2}, {4, 0}}, []rule{{8, 4}, {16, 5}, {32, 3}}))
	r := madeFrom(2, nil, nil)
	for _, good := range [][]int{append([]int{0}, repeated(1, 63)...), repeated(1, 64)} {
		if !impl.RelationIs(s, r, good) {
			t.Errorf("RelationIs of %v does not hold", good)
		}
	}
	for name, list := range noRelations() {
		wantNoRelation(t, name, s, r, list)
	}
	each, two := madeFrom(2, []int{3}, around(2)), madeFrom(2, []int{3}, nil)
	for name, list := range map[string][]int{
		"tokens that entail each other differ":   {0, 1, 3, 3},
		"one of them has nothing":                {0, 0, 3, 3},
		"both together have more":                {0, 1, 1, 3},
		"both together have less":                {0, 3, 3, 0},
		"the empty set has what they do not":     {1, 2, 2, 2},
		"as many as elements, not as sets":       {0, 3},
		"more than there are consistent sets":    {0, 3, 3, 3, 3},
		"what a token alone entails is not told": {0, 1, 2, 3},
	} {
		wantNoRelation(t, name, each, two, list)
	}
	for name, list := range map[string][]int{
		"a set that is no element":                  {0, 1, 3, 3},
		"another set that is no element":            {0, 2, 3, 3},
		"the token alone, which entails both, each": {1, 1, 1, 1},
	} {
		wantNoRelation(t, name, two, each, list)
	}
	wantNoRelation(t, "the empty set, which entails a token", madeFrom(1, nil, nil), madeFrom(1, nil, []rule{{0, 0}}), []int{0, 1})
}

// wantNoRelation fails if some function accepts a list as a relation of two systems.
func wantNoRelation(t *testing.T, what string, s impl.Info, r impl.Info, bad []int) {
	t.Helper()
	before := slices.Clone(bad)
	if impl.RelationIs(s, r, bad) {
		t.Errorf("%s: RelationIs of %v holds", what, bad)
	}
	f, ok := impl.RelationFun(s, r, bad)
	wantNoList(t, what+": RelationFun", f, ok)
	list, ok := impl.RelationAfter(s, s, r, s.Entail, bad)
	wantNoList(t, what+": RelationAfter behind what changes nothing", list, ok)
	list, ok = impl.RelationAfter(s, r, r, bad, r.Entail)
	wantNoList(t, what+": RelationAfter ahead of what changes nothing", list, ok)
	list, ok = impl.RelationAfter(s, r, madeFrom(1, nil, nil), bad, repeated(0, len(r.Con)))
	wantNoList(t, what+": RelationAfter ahead of empty sets", list, ok)
	list, ok = impl.RelationAfter(s, r, s, bad, bad)
	wantNoList(t, what+": RelationAfter of it twice", list, ok)
	if !slices.Equal(bad, before) {
		t.Errorf("%s: became %v", what, bad)
	}
}

// P46: lists that are no monotone function of the elements.
func TestRelationOfOtherLists(t *testing.T) {
	named := namedSystems()
	for i, s := range named {
		for k, r := range named {
			if (i+k)%3 > 0 {
				continue // a third of the pairs is enough
			}
			d, _ := impl.InfoDomain(s.info)
			e, _ := impl.InfoDomain(r.info)
			for name, bad := range noFunctions(d, e) {
				list, ok := impl.RelationOf(s.info, r.info, bad)
				wantNoList(t, s.name+" to "+r.name+": RelationOf, "+name, list, ok)
			}
		}
	}
	for _, s := range smallSystems() {
		d, _ := impl.InfoDomain(s.info)
		a := aboveOf(d)
		for _, list := range allLists(len(a), len(a)+1) {
			relation, ok := impl.RelationOf(s.info, s.info, list)
			if a.monotone(a, list) != ok {
				t.Errorf("%s: RelationOf of %v = %v, %v", s.name, list, relation, ok)
			}
		}
	}
}

// P47: against the definition, for all relations of systems of at most two tokens, or some where there are many.
func TestRelationAfter(t *testing.T) {
	small := append(smallSystems(), infoSample{"three loose tokens", madeFrom(3, nil, nil)})
	for _, s := range small {
		for _, r := range small {
			first := relations(s.info, r.info)
			for _, q := range small {
				second := relations(r.info, q.info)
				stride := 1 + len(first)*len(second)/60
				at := 0
				for _, f := range first {
					for _, g := range second {
						if at%stride == 0 {
							wantRelationAfter(t, s, r, q, f, g)
						}
						at++
					}
				}
			}
		}
	}
}

// wantRelationAfter fails if RelationAfter of two relations is not one after the other, or its function not the one of both functions.
func wantRelationAfter(t *testing.T, s infoSample, r infoSample, q infoSample, first []int, second []int) {
	t.Helper()
	what := fmt.Sprint(s.name, " to ", r.name, " to ", q.name, ": RelationAfter of ", first, " and ", second)
	var want []int
	for _, set := range first {
		want = append(want, second[slices.Index(r.info.Con, set)])
	}
	list, ok := impl.RelationAfter(s.info, r.info, q.info, first, second)
	wantList(t, what, list, ok, want)
	if !impl.RelationIs(s.info, q.info, list) {
		t.Errorf("%s: %v is no relation", what, list)
	}
	d, _ := impl.InfoDomain(s.info)
	e, _ := impl.InfoDomain(r.info)
	f, _ := impl.InfoDomain(q.info)
	one, _ := impl.RelationFun(s.info, r.info, first)
	other, _ := impl.RelationFun(r.info, q.info, second)
	after, _ := impl.FunAfter(d, e, f, one, other)
	both, ok := impl.RelationFun(s.info, q.info, list)
	wantList(t, what+" and RelationFun", both, ok, after)
}

// P47: relations whose consistent sets are not the numbers of their places, and what changes nothing.
func TestRelationAfterOfNamedSystems(t *testing.T) {
	loose, six := madeFrom(6, nil, nil), madeFrom(6, []int{63}, nil)
	turned := []int{0, 32, 16, 8, 4, 2, 1}
	list, ok := impl.RelationAfter(loose, loose, loose, turned, turned)
	wantList(t, "turned round twice", list, ok, loose.Con)
	list, ok = impl.RelationAfter(loose, loose, six, turned, []int{0, 1, 3, 7, 15, 31, 63})
	wantList(t, "loose to six tokens", list, ok, []int{0, 63, 31, 15, 7, 3, 1})
	list, ok = impl.RelationAfter(six, six, six, identity(64), identity(64))
	wantList(t, "nothing changed", list, ok, identity(64))
	for _, s := range namedSystems() {
		list, ok = impl.RelationAfter(s.info, s.info, s.info, s.info.Entail, s.info.Entail)
		wantList(t, s.name+": nothing changed", list, ok, s.info.Entail)
	}
}

// P47: relations of other systems.
func TestRelationAfterOfOtherSystems(t *testing.T) {
	one, loose, two := madeFrom(1, nil, nil), madeFrom(2, nil, nil), madeFrom(2, []int{3}, nil)
	for _, c := range []struct {
		name          string
		s, r, q       impl.Info
		first, second []int
	}{
		{"exchanged", one, loose, two, []int{0, 1, 3}, []int{0, 2}},
		{"the first one has what is not consistent", one, loose, two, []int{0, 3}, []int{0, 1, 3}},
		{"the second one has what is not consistent", one, two, loose, []int{0, 3}, []int{0, 1, 2, 3}},
		{"the second one has one set less", one, two, loose, []int{0, 1}, []int{0, 1, 2}},
		{"the second one has one set more", one, loose, two, []int{0, 1}, []int{0, 1, 2, 3}},
		{"the second one falls where the first one does not go", one, two, one, []int{0, 1}, []int{0, 1, 1, 0}},
		{"the second one is no element where the first one does not go", one, loose, one, []int{0, 1}, []int{0, 1, 2}},
		{"the first one falls", one, one, one, []int{1, 0}, []int{0, 1}},
		{"the second one falls", one, one, one, []int{0, 1}, []int{1, 0}},
		{"nil", one, one, one, nil, []int{0, 1}},
		{"nil behind", one, one, one, []int{0, 1}, nil},
	} {
		list, ok := impl.RelationAfter(c.s, c.r, c.q, c.first, c.second)
		wantNoList(t, c.name, list, ok)
	}
	list, ok := impl.RelationAfter(one, loose, two, []int{0, 2}, []int{0, 1, 3})
	wantList(t, "of these systems", list, ok, []int{0, 3})
}
