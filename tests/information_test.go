package tests

import (
	"fmt"
	"math"
	"slices"
	"testing"

	"loop.example/scottdomains/impl"
)

// The systems made of their elements are those that the document calls valid: of one token 2, of two tokens 1 and 7.
func TestSystemsOfTheTests(t *testing.T) {
	if n := len(allSystems(1)); n != 2 {
		t.Errorf("%d systems of one token", n)
	}
	if n := len(allSystems(2)); n != 8 {
		t.Errorf("%d systems of two tokens", n)
	}
	for _, s := range systems() {
		if !infoHolds(s.info) {
			t.Errorf("%s is invalid", s.name)
		}
	}
	for _, s := range invalidInfos() {
		if infoHolds(s.info) {
			t.Errorf("%s is valid", s.name)
		}
	}
}

// P37: against the definition, for all lists of sets of two tokens and of one set more that are as long as each other.
func TestInfoValid(t *testing.T) {
	valid := map[int]int{}
	for code := range 1 << 5 {
		con := picked(code, identity(5))
		for _, entail := range allLists(len(con), 5) {
			for tokens := range 4 {
				s := impl.Info{Tokens: tokens, Con: con, Entail: entail}
				got := impl.InfoValid(s)
				if got != infoHolds(s) {
					t.Errorf("InfoValid of %v = %v", s, got)
				}
				if got {
					valid[tokens]++
				}
			}
		}
	}
	if valid[0] != 0 || valid[1] != 2 || valid[2] != 8 || valid[3] != 5 {
		t.Errorf("so many valid systems of each number of tokens: %v", valid)
	}
}

// P37: valid systems, and those in which one set entails another one, or in which one set is left out or is another one.
func TestInfoValidWithOneChange(t *testing.T) {
	for _, s := range systems() {
		if !impl.InfoValid(s.info) {
			t.Errorf("%s: not valid", s.name)
		}
		stride := 1 + len(s.info.Con)/16
		for i := 0; i < len(s.info.Con); i += stride {
			for set := -1; set <= 1<<s.info.Tokens; set += stride {
				other := impl.Info{Tokens: s.info.Tokens, Con: s.info.Con, Entail: slices.Clone(s.info.Entail)}
				other.Entail[i] = set
				wantValidAsDefined(t, s.name, other)
				other = impl.Info{Tokens: s.info.Tokens, Con: slices.Clone(s.info.Con), Entail: s.info.Entail}
				other.Con[i] = set
				wantValidAsDefined(t, s.name, other)
			}
			less := impl.Info{Tokens: s.info.Tokens, Con: slices.Clone(s.info.Con), Entail: slices.Clone(s.info.Entail)}
			less.Con, less.Entail = slices.Delete(less.Con, i, i+1), slices.Delete(less.Entail, i, i+1)
			wantValidAsDefined(t, s.name, less)
			wantValidAsDefined(t, s.name, impl.Info{Tokens: s.info.Tokens, Con: less.Con, Entail: s.info.Entail})
			wantValidAsDefined(t, s.name, impl.Info{Tokens: s.info.Tokens, Con: s.info.Con, Entail: less.Entail})
		}
		for tokens := -1; tokens <= 8; tokens++ {
			wantValidAsDefined(t, s.name, impl.Info{Tokens: tokens, Con: s.info.Con, Entail: s.info.Entail})
		}
	}
}

// wantValidAsDefined fails if InfoValid is not as the document tells.
func wantValidAsDefined(t *testing.T, what string, s impl.Info) {
	t.Helper()
	if got := impl.InfoValid(s); got != infoHolds(s) {
		t.Errorf("%s: InfoValid of %v = %v", what, s, got)
	}
}

// P37, P38: against the definition, for all sets of the tokens and for numbers that are none.
func TestInfoEntails(t *testing.T) {
	for _, s := range systems() {
		for set := -3; set <= 1<<s.info.Tokens+3; set++ {
			if got := impl.InfoEntails(s.info, set); got != entailed(s.info, set) {
				t.Errorf("%s: InfoEntails of %d = %d", s.name, set, got)
			}
		}
		for _, set := range []int{64, 127, 128, math.MinInt, math.MinInt + 1, math.MaxInt, 1 << 62, 1 << 32} {
			if got := impl.InfoEntails(s.info, set); got != -1 {
				t.Errorf("%s: InfoEntails of %d = %d", s.name, set, got)
			}
		}
	}
}

// P37: what is entailed entails itself, and a larger set entails all of it.
func TestInfoEntailsTwice(t *testing.T) {
	for _, s := range systems() {
		for _, set := range s.info.Con {
			all := impl.InfoEntails(s.info, set)
			if again := impl.InfoEntails(s.info, all); again != all {
				t.Errorf("%s: %d entails %d, and this %d", s.name, set, all, again)
			}
			for _, larger := range s.info.Con {
				if more := impl.InfoEntails(s.info, larger); inside(set, larger) && !inside(all, more) {
					t.Errorf("%s: %d entails %d, but %d only %d", s.name, set, all, larger, more)
				}
			}
		}
	}
}

// P38: what a set entails is the least element that has it.
func TestInfoEntailsTheLeastElement(t *testing.T) {
	for _, s := range systems() {
		elements, ok := impl.InfoElements(s.info)
		for set := range 1 << s.info.Tokens {
			all := impl.InfoEntails(s.info, set)
			if all == -1 {
				continue
			}
			if !ok || !inside(set, all) || !slices.Contains(elements, all) {
				t.Errorf("%s: %d entails %d", s.name, set, all)
			}
			for _, x := range elements {
				if inside(set, x) && !inside(all, x) {
					t.Errorf("%s: %d entails %d, which is not within the element %d", s.name, set, all, x)
				}
			}
		}
	}
}

// P37, P38: tokens that entail each other, and tokens that the empty set entails.
func TestInfoEntailsOfNamedSystems(t *testing.T) {
	each := impl.Info{Tokens: 2, Con: []int{0, 1, 2, 3}, Entail: []int{0, 3, 3, 3}}
	empty := impl.Info{Tokens: 2, Con: []int{0, 1, 2, 3}, Entail: []int{2, 3, 2, 3}}
	loose := impl.Info{Tokens: 2, Con: []int{0, 1, 2}, Entail: []int{0, 1, 2}}
	one := impl.Info{Tokens: 1, Con: []int{0, 1}, Entail: []int{1, 1}}
	for _, c := range []struct {
		name     string
		info     impl.Info
		set, all int
	}{
		{"each other, none", each, 0, 0},
		{"each other, the first one", each, 1, 3},
		{"each other, the second one", each, 2, 3},
		{"each other, both", each, 3, 3},
		{"each other, no token", each, 4, -1},
		{"empty set, none", empty, 0, 2},
		{"empty set, the first one", empty, 1, 3},
		{"empty set, the second one", empty, 2, 2},
		{"loose, both", loose, 3, -1},
		{"loose, negative", loose, -1, -1},
		{"one, none", one, 0, 1},
		{"one, the token", one, 1, 1},
		{"one, too great", one, 2, -1},
	} {
		if got := impl.InfoEntails(c.info, c.set); got != c.all {
			t.Errorf("%s: InfoEntails = %d, want %d", c.name, got, c.all)
		}
	}
}

// P39: against the definition, ascending.
func TestInfoElements(t *testing.T) {
	for _, s := range systems() {
		elements, ok := impl.InfoElements(s.info)
		wantList(t, s.name+": InfoElements", elements, ok, elementsOf(s.info))
	}
}

// P39: intersections are elements, and unions within an element entail one.
func TestInfoElementsMeetAndJoin(t *testing.T) {
	for _, s := range systems() {
		elements, _ := impl.InfoElements(s.info)
		for _, x := range elements {
			for _, y := range elements {
				if !slices.Contains(elements, x&y) {
					t.Errorf("%s: the intersection of %d and %d is no element", s.name, x, y)
				}
				bounded := slices.ContainsFunc(elements, func(z int) bool { return inside(x|y, z) })
				if all := impl.InfoEntails(s.info, x|y); bounded != slices.Contains(elements, all) {
					t.Errorf("%s: the union of %d and %d entails %d", s.name, x, y, all)
				}
			}
		}
	}
}

// P39: the number of elements, from one up to all sets.
func TestInfoElementsOfNamedSystems(t *testing.T) {
	want := map[string]int{
		"one token":                                       2,
		"one token that the empty set entails":            1,
		"two loose tokens":                                3,
		"two tokens that entail each other":               2,
		"six tokens":                                      64,
		"six loose tokens":                                7,
		"six tokens that the empty set entails":           1,
		"six tokens that entail each other around":        2,
		"six tokens, each of which entails the one ahead": 7,
		"three tokens of which each two are consistent":   7,
	}
	seen := 0
	for _, s := range namedSystems() {
		elements, ok := impl.InfoElements(s.info)
		if n, has := want[s.name]; has {
			seen++
			if !ok || len(elements) != n {
				t.Errorf("%s: %d elements, want %d", s.name, len(elements), n)
			}
		}
	}
	if seen != len(want) {
		t.Errorf("%d of %d systems are there", seen, len(want))
	}
}

// P40: against the definition: the elements by inclusion are a domain.
func TestInfoDomain(t *testing.T) {
	for _, s := range systems() {
		d, ok := impl.InfoDomain(s.info)
		wantOrder(t, s.name+": InfoDomain", d, ok, aboveOfSets(elementsOf(s.info)).order())
	}
}

// P40: as many elements as InfoElements, and joins are what unions entail.
func TestInfoDomainJoins(t *testing.T) {
	for _, s := range systems() {
		d, _ := impl.InfoDomain(s.info)
		elements, _ := impl.InfoElements(s.info)
		if len(d.Up) != len(elements) {
			t.Errorf("%s: %d elements, want %d", s.name, len(d.Up), len(elements))
		}
		stride := 1 + len(elements)/16 // of many elements, some rows are enough
		for i := 0; i < len(elements); i += stride {
			for k := range elements {
				all := impl.InfoEntails(s.info, elements[i]|elements[k])
				if join := impl.OrderJoin(d, i, k); join != slices.Index(elements, all) {
					t.Errorf("%s: the join of %d and %d is %d, but their union entails %d", s.name, i, k, join, all)
				}
			}
		}
	}
}

// P40: domains that are known.
func TestInfoDomainOfNamedSystems(t *testing.T) {
	for _, c := range []struct {
		name string
		info impl.Info
		want impl.Order
	}{
		{"one token", madeFrom(1, nil, nil), chain(2)},
		{"a token that the empty set entails", madeFrom(1, nil, []rule{{0, 0}}), chain(1)},
		{"tokens that entail each other", madeFrom(2, []int{3}, around(2)), chain(2)},
		{"six loose tokens", madeFrom(6, nil, nil), flat(6)},
		{"six tokens", madeFrom(6, []int{63}, nil), cube(6)},
		{"three tokens, each two consistent", madeFrom(3, []int{3, 5, 6}, nil), must(t, [][]int{{1, 2, 4}, {3, 5}, {3, 6}, {}, {5, 6}, {}, {}})},
		{"the last token entails the others", madeFrom(3, []int{7}, []rule{{4, 0}, {4, 1}}), must(t, [][]int{{1, 2}, {3}, {3}, {4}, {}})},
	} {
		d, ok := impl.InfoDomain(c.info)
		wantOrder(t, c.name+": InfoDomain", d, ok, c.want)
	}
}

// P37 to P40: lists of the same memory are a system as well.
func TestInfoOfOneList(t *testing.T) {
	for _, s := range conFamilies(3) {
		info := impl.Info{Tokens: 3, Con: s, Entail: s}
		elements, ok := impl.InfoElements(info)
		wantList(t, fmt.Sprint(s), elements, ok, s)
		if !impl.InfoValid(info) || impl.InfoEntails(info, 4) != 4 {
			t.Errorf("%v: not valid", s)
		}
	}
}
