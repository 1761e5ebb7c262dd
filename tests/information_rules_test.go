package tests

import (
	"fmt"
	"math"
	"slices"
	"testing"

	"loop.example/scottdomains/impl"
)

// wantFrom fails if InfoFrom is not as the document tells, and returns whether it succeeds.
func wantFrom(t *testing.T, tokens int, sets []int, rules []rule) bool {
	t.Helper()
	s, ok := fromLists(tokens, sets, rules)
	what := fmt.Sprint("InfoFrom of ", tokens, sets, rules)
	want := madeFrom(tokens, sets, rules)
	if !infoHolds(want) {
		wantNoInfo(t, what, s, ok)
		return false
	}
	wantInfo(t, what, s, ok, want)
	if !impl.InfoValid(s) {
		t.Errorf("%s = %v, not valid", what, s)
	}
	for _, set := range s.Con {
		for _, r := range rules {
			if inside(r.from, set) && !inside(1<<r.to, impl.InfoEntails(s, set)) {
				t.Errorf("%s: %d does not entail %d", what, set, r.to)
			}
		}
	}
	return true
}

// P43: against the definition, for all sets and all rules of two tokens.
func TestInfoFrom(t *testing.T) {
	good, bad := 0, 0
	for code := range 1 << 4 {
		sets := picked(code, identity(4))
		for chosen := range 1 << 8 {
			var rules []rule
			for _, at := range picked(chosen, identity(8)) {
				rules = append(rules, rule{at % 4, at / 4})
			}
			if wantFrom(t, 2, sets, rules) {
				good++
			} else {
				bad++
			}
		}
	}
	if good < 1000 || bad < 1000 {
		t.Errorf("%d succeed, %d fail", good, bad)
	}
}

// P43: for rules and sets made from seeds, in another order and each one twice as well.
func TestInfoFromMixed(t *testing.T) {
	good, bad := 0, 0
	for seed := range uint32(2000) {
		next := func(limit int) int {
			seed = seed*1664525 + 1013904223
			return int(seed>>16) % limit
		}
		tokens := 3 + next(4)
		var sets []int
		var rules []rule
		for range next(4) {
			sets = append(sets, next(1<<tokens)|next(1<<tokens))
		}
		for range next(6) {
			rules = append(rules, rule{next(1<<tokens) & next(1<<tokens), next(tokens)})
		}
		if wantFrom(t, tokens, sets, rules) {
			good++
		} else {
			bad++
		}
		s, ok := fromLists(tokens, sets, rules)
		slices.Reverse(sets)
		slices.Reverse(rules)
		r, fine := fromLists(tokens, append(sets, sets...), append(rules, rules...))
		if ok != fine || !sameInfo(s, r) {
			t.Errorf("InfoFrom of %d, %v, %v turned round = %v, want %v", tokens, sets, rules, r, s)
		}
	}
	if good < 300 || bad < 300 {
		t.Errorf("%d succeed, %d fail", good, bad)
	}
}

// P43: tokens that entail each other, that the empty set entails, rules that wait for others, and sets that nothing is within.
func TestInfoFromNamedRules(t *testing.T) {
	var down []rule
	for token := range 5 {
		down = append(down, rule{1 << (token + 1), token})
	}
	back := slices.Clone(down)
	slices.Reverse(back)
	none := []rule{}
	for _, c := range []struct {
		name   string
		tokens int
		sets   []int
		rules  []rule
		want   impl.Info
	}{
		{"nothing given", 2, nil, nil, impl.Info{Tokens: 2, Con: []int{0, 1, 2}, Entail: []int{0, 1, 2}}},
		{"one token", 1, []int{}, none, impl.Info{Tokens: 1, Con: []int{0, 1}, Entail: []int{0, 1}}},
		{"one token given", 1, []int{1}, none, impl.Info{Tokens: 1, Con: []int{0, 1}, Entail: []int{0, 1}}},
		{"the empty set given", 2, []int{0, 0}, none, impl.Info{Tokens: 2, Con: []int{0, 1, 2}, Entail: []int{0, 1, 2}}},
		{"each other", 2, []int{3}, around(2), impl.Info{Tokens: 2, Con: []int{0, 1, 2, 3}, Entail: []int{0, 3, 3, 3}}},
		{"itself", 2, nil, []rule{{1, 0}, {2, 1}}, impl.Info{Tokens: 2, Con: []int{0, 1, 2}, Entail: []int{0, 1, 2}}},
		{"each other around", 3, []int{7}, around(3), impl.Info{Tokens: 3, Con: []int{0, 1, 2, 3, 4, 5, 6, 7}, Entail: []int{0, 7, 7, 7, 7, 7, 7, 7}}},
		{"each other, beside a loose one", 3, []int{3}, around(2), impl.Info{Tokens: 3, Con: []int{0, 1, 2, 3, 4}, Entail: []int{0, 3, 3, 3, 4}}},
		{"the empty set entails a token", 1, nil, []rule{{0, 0}}, impl.Info{Tokens: 1, Con: []int{0, 1}, Entail: []int{1, 1}}},
		{"the empty set entails all", 2, []int{3}, []rule{{0, 1}, {2, 0}}, impl.Info{Tokens: 2, Con: []int{0, 1, 2, 3}, Entail: []int{3, 3, 3, 3}}},
		{"a rule asks for what is not consistent", 2, nil, []rule{{3, 0}, {3, 1}}, impl.Info{Tokens: 2, Con: []int{0, 1, 2}, Entail: []int{0, 1, 2}}},
		{"two together", 3, []int{7}, []rule{{3, 2}}, impl.Info{Tokens: 3, Con: []int{0, 1, 2, 3, 4, 5, 6, 7}, Entail: []int{0, 1, 2, 7, 4, 5, 6, 7}}},
		{"one rule waits for another one", 3, []int{7}, []rule{{6, 0}, {4, 1}}, impl.Info{Tokens: 3, Con: []int{0, 1, 2, 3, 4, 5, 6, 7}, Entail: []int{0, 1, 2, 3, 7, 7, 7, 7}}},
		{"each one the one ahead", 6, []int{63}, down, madeFrom(6, []int{63}, down)},
		{"each one the one ahead, turned round", 6, []int{63}, back, madeFrom(6, []int{63}, down)},
		{"sets within others", 3, []int{1, 3, 2, 3, 6}, none, impl.Info{Tokens: 3, Con: []int{0, 1, 2, 3, 4, 6}, Entail: []int{0, 1, 2, 3, 4, 6}}},
	} {
		s, ok := fromLists(c.tokens, c.sets, c.rules)
		wantInfo(t, c.name+": InfoFrom", s, ok, c.want)
	}
	if s, _ := fromLists(6, []int{63}, back); impl.InfoEntails(s, 32) != 63 || impl.InfoEntails(s, 4) != 7 {
		t.Errorf("each one the one ahead: %v", s)
	}
}

// P43: invalid arguments, each one alone, and results that are invalid.
func TestInfoFromFails(t *testing.T) {
	for _, c := range []struct {
		name             string
		tokens           int
		sets, froms, tos []int
	}{
		{"no tokens", 0, nil, nil, nil},
		{"no tokens, the empty set", 0, []int{0}, nil, nil},
		{"negative", -1, nil, nil, nil},
		{"very negative", math.MinInt, nil, nil, nil},
		{"seven", 7, nil, nil, nil},
		{"64", 64, nil, nil, nil},
		{"65", 65, []int{1}, nil, nil},
		{"far too many", math.MaxInt, nil, nil, nil},
		{"a negative set", 2, []int{-1}, nil, nil},
		{"a very negative set", 2, []int{3, math.MinInt}, nil, nil},
		{"a set of another token", 2, []int{3, 4}, nil, nil},
		{"a set of the seventh token", 6, []int{64}, nil, nil},
		{"far too great a set", 6, []int{math.MaxInt, 1}, nil, nil},
		{"a negative set in a rule", 2, []int{3}, []int{1, -1}, []int{1, 1}},
		{"a very negative set in a rule", 2, []int{3}, []int{math.MinInt}, []int{1}},
		{"a set of another token in a rule", 2, []int{3}, []int{4}, []int{1}},
		{"a set of the seventh token in a rule", 6, []int{63}, []int{64}, []int{1}},
		{"far too great a set in a rule", 2, []int{3}, []int{math.MaxInt}, []int{1}},
		{"a negative token", 2, []int{3}, []int{1, 1}, []int{1, -1}},
		{"a very negative token", 2, []int{3}, []int{1}, []int{math.MinInt}},
		{"another token", 2, []int{3}, []int{1}, []int{2}},
		{"another token of a rule that is not used", 2, nil, []int{3}, []int{2}},
		{"the seventh token", 6, []int{63}, []int{1}, []int{6}},
		{"far too great a token", 2, []int{3}, []int{1}, []int{math.MaxInt}},
		{"no sets for tokens", 2, []int{3}, nil, []int{1}},
		{"no tokens for sets", 2, []int{3}, []int{1}, nil},
		{"a set more", 2, []int{3}, []int{1, 2}, []int{1}},
		{"a token more", 2, []int{3}, []int{1}, []int{1, 0}},
		{"loose tokens that entail each other", 2, nil, []int{1, 2}, []int{1, 0}},
		{"a token entails a loose one", 2, nil, []int{1}, []int{1}},
		{"the empty set entails a loose token", 2, nil, []int{0}, []int{0}},
		{"the empty set entails all of six loose tokens", 6, nil, []int{0, 0, 0, 0, 0, 0}, []int{0, 1, 2, 3, 4, 5}},
		{"a pair entails a third token beside it", 3, []int{3}, []int{3}, []int{2}},
		{"not consistent after two rules", 3, []int{3, 6}, []int{1, 2}, []int{1, 2}},
	} {
		s, ok := impl.InfoFrom(c.tokens, c.sets, c.froms, c.tos)
		wantNoInfo(t, c.name+": InfoFrom", s, ok)
	}
}

// P43: lists of many sets and rules.
func TestInfoFromLongLists(t *testing.T) {
	sets, froms, tos := repeated(3, 50000), repeated(1, 50000), repeated(1, 50000)
	sets[49999], froms[49999], tos[49999] = 12, 4, 3
	s, ok := impl.InfoFrom(4, sets, froms, tos)
	wantInfo(t, "InfoFrom", s, ok, madeFrom(4, []int{3, 12}, []rule{{1, 1}, {4, 3}}))
}

// times returns what the document tells of InfoTimes, valid or not.
func times(s impl.Info, r impl.Info) impl.Info {
	both := impl.Info{Tokens: s.Tokens + r.Tokens}
	for set := range 1 << both.Tokens {
		first, second := set%(1<<s.Tokens), set/(1<<s.Tokens)
		if slices.Contains(s.Con, first) && slices.Contains(r.Con, second) {
			both.Con = append(both.Con, set)
			both.Entail = append(both.Entail, entailed(s, first)+entailed(r, second)<<s.Tokens)
		}
	}
	return both
}

// factors calls a test for pairs of systems: all of at most two tokens, and some of the others.
func factors(visit func(s infoSample, r infoSample)) {
	all := systems()
	small := len(smallSystems())
	for i, s := range all {
		for k, r := range all {
			if (i < small && k < small) || (i+7*k)%11 == 0 {
				visit(s, r)
			}
		}
	}
}

// P48: against the definition, up to TokensMax tokens.
func TestInfoTimes(t *testing.T) {
	tokens := map[int]int{}
	factors(func(s infoSample, r infoSample) {
		what := s.name + " times " + r.name
		both, ok := impl.InfoTimes(s.info, r.info)
		tokens[s.info.Tokens+r.info.Tokens]++
		if s.info.Tokens+r.info.Tokens > 6 {
			wantNoInfo(t, what, both, ok)
			return
		}
		wantInfo(t, what, both, ok, times(s.info, r.info))
		if !impl.InfoValid(both) {
			t.Errorf("%s = %v, not valid", what, both)
		}
	})
	for n := 2; n <= 12; n++ {
		if tokens[n] == 0 {
			t.Errorf("no pair has %d tokens", n)
		}
	}
}

// P48: the pair of two elements is the one that has the tokens of both, and pairs are ordered as in the product.
func TestInfoTimesIsTheProduct(t *testing.T) {
	small := 0
	factors(func(s infoSample, r infoSample) {
		both, ok := impl.InfoTimes(s.info, r.info)
		if !ok || len(both.Con) > 40 {
			return
		}
		d, _ := impl.InfoDomain(both)
		first, _ := impl.InfoDomain(s.info)
		second, _ := impl.InfoDomain(r.info)
		product, fine := impl.DomainProduct(first, second)
		if !fine || len(product.Up) != len(d.Up) {
			t.Errorf("%s times %s: %d elements, want %d", s.name, r.name, len(d.Up), len(product.Up))
			return
		}
		if len(d.Up) <= 12 {
			small++
			if !impl.OrderSame(d, product) {
				t.Errorf("%s times %s: the domain %v is not %v", s.name, r.name, d.Up, product.Up)
			}
		}
		n, m := len(first.Up), len(second.Up)
		var names []int
		for at := range product.Up {
			names = append(names, at%m*n+at/m)
		}
		if a, b := aboveOf(product), aboveOf(d); !a.keeps(b, names) {
			t.Errorf("%s times %s: %v, want %v", s.name, r.name, d.Up, product.Up)
		}
	})
	if small < 200 {
		t.Errorf("%d domains of at most 12 elements", small)
	}
}

// P48: results that are known, tokens that entail each other and that the empty set entails among them, and the limit.
func TestInfoTimesOfNamedSystems(t *testing.T) {
	one, loose := madeFrom(1, nil, nil), madeFrom(2, nil, nil)
	each, empty := madeFrom(2, []int{3}, around(2)), madeFrom(1, nil, []rule{{0, 0}})
	for _, c := range []struct {
		name string
		s, r impl.Info
		want impl.Info
	}{
		{"one and one", one, one, impl.Info{Tokens: 2, Con: []int{0, 1, 2, 3}, Entail: []int{0, 1, 2, 3}}},
		{"one and loose", one, loose, impl.Info{Tokens: 3, Con: []int{0, 1, 2, 3, 4, 5}, Entail: []int{0, 1, 2, 3, 4, 5}}},
		{"loose and one", loose, one, impl.Info{Tokens: 3, Con: []int{0, 1, 2, 4, 5, 6}, Entail: []int{0, 1, 2, 4, 5, 6}}},
		{"each other and one", each, one, impl.Info{Tokens: 3, Con: []int{0, 1, 2, 3, 4, 5, 6, 7}, Entail: []int{0, 3, 3, 3, 4, 7, 7, 7}}},
		{"one and each other", one, each, impl.Info{Tokens: 3, Con: []int{0, 1, 2, 3, 4, 5, 6, 7}, Entail: []int{0, 1, 6, 7, 6, 7, 6, 7}}},
		{"empty set and one", empty, one, impl.Info{Tokens: 2, Con: []int{0, 1, 2, 3}, Entail: []int{1, 1, 3, 3}}},
		{"one and empty set", one, empty, impl.Info{Tokens: 2, Con: []int{0, 1, 2, 3}, Entail: []int{2, 3, 2, 3}}},
		{"one and five loose", one, madeFrom(5, nil, nil), times(one, madeFrom(5, nil, nil))},
		{"five and one", madeFrom(5, []int{31}, nil), one, madeFrom(6, []int{63}, nil)},
	} {
		s, ok := impl.InfoTimes(c.s, c.r)
		wantInfo(t, c.name+": InfoTimes", s, ok, c.want)
	}
	for _, n := range [][2]int{{1, 6}, {6, 1}, {2, 5}, {3, 4}, {4, 3}, {6, 6}} {
		s, ok := impl.InfoTimes(madeFrom(n[0], nil, nil), madeFrom(n[1], nil, nil))
		wantNoInfo(t, fmt.Sprint("InfoTimes of so many tokens: ", n), s, ok)
	}
}
