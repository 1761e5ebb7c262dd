package tests

import (
	"fmt"
	"math"
	"slices"
	"testing"

	"loop.example/scottdomains/impl"
)

// infoSample is an information system with the name by which a failing test tells it.
type infoSample struct {
	name string
	info impl.Info
}

// rule is a set of tokens, and the token that it adds.
type rule struct {
	from, to int
}

// inside reports whether each of the tokens of a set is one of another set.
func inside(set int, other int) bool {
	return set|other == other
}

// entailed returns the set behind a consistent set, or -1.
func entailed(s impl.Info, set int) int {
	at := slices.Index(s.Con, set)
	if at < 0 {
		return -1
	}
	return s.Entail[at]
}

// infoHolds reports whether an information system is valid, sentence by sentence.
func infoHolds(s impl.Info) bool {
	if s.Tokens < 1 || s.Tokens > 6 || len(s.Con) != len(s.Entail) || !slices.Contains(s.Con, 0) {
		return false
	}
	for token := range s.Tokens {
		if !slices.Contains(s.Con, 1<<token) {
			return false
		}
	}
	for i, set := range s.Con {
		if set < 0 || set >= 1<<s.Tokens || i > 0 && set <= s.Con[i-1] {
			return false
		}
		for part := range set {
			if inside(part, set) && !slices.Contains(s.Con, part) {
				return false
			}
		}
		if !slices.Contains(s.Con, s.Entail[i]) || !inside(set, s.Entail[i]) {
			return false
		}
		for k, other := range s.Con {
			if inside(other, s.Entail[i]) && !inside(s.Entail[k], s.Entail[i]) {
				return false
			}
		}
	}
	return true
}

// elementsOf returns the consistent sets that entail just their own tokens.
func elementsOf(s impl.Info) []int {
	var elements []int
	for i, set := range s.Con {
		if s.Entail[i] == set {
			elements = append(elements, set)
		}
	}
	return elements
}

// aboveOfSets returns the order of sets by inclusion.
func aboveOfSets(sets []int) above {
	return madeOf(len(sets), func(i int, k int) bool { return inside(sets[i], sets[k]) })
}

// madeFrom returns what the document tells of InfoFrom, valid or not, with the rules used one after the other.
func madeFrom(tokens int, sets []int, rules []rule) impl.Info {
	s := impl.Info{Tokens: tokens}
	for set := range 1 << tokens {
		fits := set == 0
		for token := range tokens {
			fits = fits || set == 1<<token
		}
		for _, other := range sets {
			fits = fits || inside(set, other)
		}
		if !fits {
			continue
		}
		all := set
		for changed := true; changed; {
			changed = false
			for _, r := range rules {
				if inside(r.from, all) && all>>r.to&1 == 0 {
					all, changed = all+1<<r.to, true
				}
			}
		}
		s.Con, s.Entail = append(s.Con, set), append(s.Entail, all)
	}
	return s
}

// fromLists calls InfoFrom with rules.
func fromLists(tokens int, sets []int, rules []rule) (impl.Info, bool) {
	var froms, tos []int
	for _, r := range rules {
		froms, tos = append(froms, r.from), append(tos, r.to)
	}
	return impl.InfoFrom(tokens, sets, froms, tos)
}

// picked returns the numbers of a list at the places of the bits of a code.
func picked(code int, list []int) []int {
	var some []int
	for i, k := range list {
		if code>>i&1 == 1 {
			some = append(some, k)
		}
	}
	return some
}

// conFamilies returns each list of sets of so many tokens that has the empty one, each token alone, and each set within one of it.
func conFamilies(tokens int) [][]int {
	var all [][]int
	for code := range 1 << (1 << tokens) {
		con := picked(code, identity(1<<tokens))
		fits := slices.Contains(con, 0)
		for token := range tokens {
			fits = fits && slices.Contains(con, 1<<token)
		}
		for _, set := range con {
			for part := range set {
				fits = fits && (!inside(part, set) || slices.Contains(con, part))
			}
		}
		if fits {
			all = append(all, con)
		}
	}
	return all
}

// closedBy returns, for each set, the least one of some of them that it is within, and true, or false if some set has none.
func closedBy(con []int, elements []int) ([]int, bool) {
	var entail []int
	for _, set := range con {
		least := -1
		for _, x := range elements {
			fits := inside(set, x)
			for _, y := range elements {
				fits = fits && (!inside(set, y) || inside(x, y))
			}
			if fits {
				least = x
			}
		}
		if least < 0 {
			return nil, false
		}
		entail = append(entail, least)
	}
	return entail, true
}

// allSystems returns every information system of so many tokens, each one made of its elements:
// a choice of consistent sets is that of all elements exactly if each consistent set is within a least one of them.
func allSystems(tokens int) []infoSample {
	var all []infoSample
	for _, con := range conFamilies(tokens) {
		for code := range 1 << len(con) {
			if entail, ok := closedBy(con, picked(code, con)); ok {
				all = append(all, infoSample{fmt.Sprint(tokens, con, entail), impl.Info{Tokens: tokens, Con: con, Entail: entail}})
			}
		}
	}
	return all
}

// smallSystems returns every information system of at most two tokens.
func smallSystems() []infoSample {
	return append(allSystems(1), allSystems(2)...)
}

// around returns rules by which each token adds the next one, and the last one the first.
func around(tokens int) []rule {
	var rules []rule
	for token := range tokens {
		rules = append(rules, rule{1 << token, (token + 1) % tokens})
	}
	return rules
}

// namedSystems returns information systems that the document's conditions tell apart.
func namedSystems() []infoSample {
	var down, empty []rule
	for token := range 6 {
		empty = append(empty, rule{0, token})
		if token > 0 {
			down = append(down, rule{1 << token, token - 1})
		}
	}
	return []infoSample{
		{"one token", madeFrom(1, nil, nil)},
		{"one token that the empty set entails", madeFrom(1, nil, []rule{{0, 0}})},
		{"two loose tokens", madeFrom(2, nil, nil)},
		{"two tokens", madeFrom(2, []int{3}, nil)},
		{"two tokens that entail each other", madeFrom(2, []int{3}, around(2))},
		{"two tokens that entail each other, and a loose one", madeFrom(3, []int{3}, around(2))},
		{"two tokens that entail each other, twice", madeFrom(4, []int{15}, []rule{{1, 1}, {2, 0}, {4, 3}, {8, 2}})},
		{"three tokens that entail each other around", madeFrom(3, []int{7}, around(3))},
		{"three tokens of which each two are consistent", madeFrom(3, []int{3, 5, 6}, nil)},
		{"two tokens that entail a third one together", madeFrom(3, []int{7}, []rule{{3, 2}})},
		{"the empty set entails a token that entails another one", madeFrom(3, []int{7}, []rule{{0, 2}, {4, 0}})},
		{"the empty set entails two tokens that entail each other", madeFrom(3, []int{7}, []rule{{0, 0}, {1, 1}, {2, 0}})},
		{"six tokens", madeFrom(6, []int{63}, nil)},
		{"six loose tokens", madeFrom(6, nil, nil)},
		{"six tokens, each of which entails the one ahead", madeFrom(6, []int{63}, down)},
		{"six tokens that entail each other around", madeFrom(6, []int{63}, around(6))},
		{"six tokens that the empty set entails", madeFrom(6, []int{63}, empty)},
		{"six tokens in two parts", madeFrom(6, []int{7, 56}, []rule{{1, 1}, {2, 0}, {48, 3}})},
	}
}

// mixedSystem returns a valid information system that depends on a seed alone.
func mixedSystem(tokens int, seed uint32) impl.Info {
	next := func(limit int) int {
		seed = seed*1664525 + 1013904223
		return int(seed>>16) % limit
	}
	for {
		var sets []int
		var rules []rule
		for range 1 + next(4) {
			sets = append(sets, next(1<<tokens)|next(1<<tokens))
		}
		for range next(5) {
			rules = append(rules, rule{next(1 << tokens), next(tokens)})
		}
		if s := madeFrom(tokens, sets, rules); infoHolds(s) {
			return s
		}
	}
}

// systems returns every information system of at most three tokens, the named ones, and some made from seeds.
func systems() []infoSample {
	all := slices.Concat(smallSystems(), allSystems(3), namedSystems())
	for seed := range uint32(40) {
		tokens := 4 + int(seed%3)
		all = append(all, infoSample{fmt.Sprintf("mixed %d of %d", tokens, seed), mixedSystem(tokens, seed)})
	}
	return all
}

// invalidInfos returns what is no information system, by what is wrong with it.
func invalidInfos() []infoSample {
	seven := madeFrom(7, nil, nil)
	sevenAll := madeFrom(7, []int{127}, nil)
	broken := func(s impl.Info, change func(s *impl.Info)) impl.Info {
		change(&s)
		return s
	}
	two, three := madeFrom(2, []int{3}, nil), madeFrom(3, []int{7}, nil)
	return []infoSample{
		{"nil", impl.Info{}},
		{"no tokens", impl.Info{Tokens: 0, Con: []int{0}, Entail: []int{0}}},
		{"a negative number of tokens", impl.Info{Tokens: -1, Con: []int{0, 1}, Entail: []int{0, 1}}},
		{"a very negative number of tokens", broken(two, func(s *impl.Info) { s.Tokens = math.MinInt })},
		{"seven loose tokens", seven},
		{"seven tokens", sevenAll},
		{"64 tokens", broken(two, func(s *impl.Info) { s.Tokens = 64 })},
		{"65 tokens", broken(two, func(s *impl.Info) { s.Tokens = 65 })},
		{"as many tokens as a number tells", broken(two, func(s *impl.Info) { s.Tokens = math.MaxInt })},
		{"nil lists", impl.Info{Tokens: 1}},
		{"empty lists", impl.Info{Tokens: 1, Con: []int{}, Entail: []int{}}},
		{"what is entailed is nil", impl.Info{Tokens: 1, Con: []int{0, 1}}},
		{"what is consistent is nil", impl.Info{Tokens: 1, Entail: []int{0, 1}}},
		{"a set entails nothing that is told", impl.Info{Tokens: 2, Con: []int{0, 1, 2, 3}, Entail: []int{0, 1, 2}}},
		{"one set more is entailed", impl.Info{Tokens: 2, Con: []int{0, 1, 2}, Entail: []int{0, 1, 2, 3}}},
		{"the empty set is not consistent", impl.Info{Tokens: 2, Con: []int{1, 2}, Entail: []int{1, 2}}},
		{"the first token is not consistent", impl.Info{Tokens: 2, Con: []int{0, 2}, Entail: []int{0, 2}}},
		{"the last token is not consistent", impl.Info{Tokens: 2, Con: []int{0, 1}, Entail: []int{0, 1}}},
		{"the last of six tokens is not consistent", impl.Info{Tokens: 6, Con: []int{0, 1, 2, 4, 8, 16}, Entail: []int{0, 1, 2, 4, 8, 16}}},
		{"a pair within a consistent set is not", impl.Info{Tokens: 3, Con: []int{0, 1, 2, 3, 4, 6, 7}, Entail: []int{0, 1, 2, 3, 4, 6, 7}}},
		{"no pair within a consistent set is", impl.Info{Tokens: 3, Con: []int{0, 1, 2, 4, 7}, Entail: []int{0, 1, 2, 4, 7}}},
		{"not ascending", impl.Info{Tokens: 2, Con: []int{0, 2, 1, 3}, Entail: []int{0, 2, 1, 3}}},
		{"not ascending at the empty set", impl.Info{Tokens: 1, Con: []int{1, 0}, Entail: []int{1, 0}}},
		{"a set twice", impl.Info{Tokens: 2, Con: []int{0, 1, 2, 2}, Entail: []int{0, 1, 2, 2}}},
		{"a negative set", impl.Info{Tokens: 1, Con: []int{-1, 0, 1}, Entail: []int{0, 0, 1}}},
		{"a very negative set", impl.Info{Tokens: 1, Con: []int{math.MinInt, 0, 1}, Entail: []int{0, 0, 1}}},
		{"a set of another token", impl.Info{Tokens: 2, Con: []int{0, 1, 2, 4}, Entail: []int{0, 1, 2, 4}}},
		{"a set of far too many tokens", impl.Info{Tokens: 1, Con: []int{0, 1, math.MaxInt}, Entail: []int{0, 1, 1}}},
		{"not its own tokens", impl.Info{Tokens: 1, Con: []int{0, 1}, Entail: []int{0, 0}}},
		{"another token instead of its own", impl.Info{Tokens: 2, Con: []int{0, 1, 2, 3}, Entail: []int{0, 2, 2, 3}}},
		{"what is entailed is not consistent", impl.Info{Tokens: 2, Con: []int{0, 1, 2}, Entail: []int{0, 3, 2}}},
		{"loose tokens entail each other", impl.Info{Tokens: 2, Con: []int{0, 1, 2}, Entail: []int{0, 3, 3}}},
		{"another token is entailed", impl.Info{Tokens: 1, Con: []int{0, 1}, Entail: []int{0, 3}}},
		{"a negative set is entailed", impl.Info{Tokens: 1, Con: []int{0, 1}, Entail: []int{0, -1}}},
		{"a very negative set is entailed", impl.Info{Tokens: 1, Con: []int{0, 1}, Entail: []int{math.MinInt, 1}}},
		{"far too much is entailed", impl.Info{Tokens: 1, Con: []int{0, 1}, Entail: []int{0, math.MaxInt}}},
		{"what is entailed entails more", broken(three, func(s *impl.Info) { s.Entail = []int{0, 3, 6, 7, 4, 7, 6, 7} })},
		{"a part of what is entailed entails more", broken(three, func(s *impl.Info) { s.Entail = []int{0, 1, 6, 3, 4, 5, 6, 7} })},
		{"the empty set entails what a token does not", broken(two, func(s *impl.Info) { s.Entail = []int{1, 1, 2, 3} })},
		{"the empty set entails what loose tokens do not", impl.Info{Tokens: 2, Con: []int{0, 1, 2}, Entail: []int{1, 1, 2}}},
	}
}

// isZeroInfo reports whether an information system is the zero value.
func isZeroInfo(s impl.Info) bool {
	return s.Tokens == 0 && len(s.Con) == 0 && len(s.Entail) == 0
}

// sameInfo reports whether two information systems are equal.
func sameInfo(s impl.Info, r impl.Info) bool {
	return s.Tokens == r.Tokens && slices.Equal(s.Con, r.Con) && slices.Equal(s.Entail, r.Entail)
}

// wantInfo fails if a function did not give the wanted information system.
func wantInfo(t *testing.T, what string, s impl.Info, ok bool, want impl.Info) {
	t.Helper()
	if !ok || !sameInfo(s, want) {
		t.Errorf("%s = %v, %v, want %v", what, s, ok, want)
	}
}

// wantNoInfo fails if a function gave an information system.
func wantNoInfo(t *testing.T, what string, s impl.Info, ok bool) {
	t.Helper()
	if ok || !isZeroInfo(s) {
		t.Errorf("%s = %v, %v, want none", what, s, ok)
	}
}
