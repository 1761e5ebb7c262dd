package tests

import (
	"fmt"
	"slices"
	"testing"

	"loop.example/scottdomains/impl"
)

// sevenElements returns domains with just TokensMax elements besides the least one.
func sevenElements(t *testing.T) []sample {
	t.Helper()
	return []sample{
		{"chain of 7", chain(7)},
		{"falling chain of 7", fallingChain(7)},
		{"flat of 6", flat(6)},
		{"flat of 6, least is 6", renamed(t, flat(6), []int{6, 5, 4, 3, 2, 1, 0})},
		{"flat of 6, least is 3", renamed(t, flat(6), []int{3, 0, 1, 2, 4, 5, 6})},
		{"cube of 3 without its greatest element", must(t, [][]int{{1, 2, 4}, {3, 5}, {3, 6}, {}, {5, 6}, {}, {}})},
		{"two diamonds, one on the other", must(t, [][]int{{1, 2}, {3}, {3}, {4, 5}, {6}, {6}, {}})},
		{"five between", must(t, [][]int{{1, 2, 3, 4, 5}, {6}, {6}, {6}, {6}, {6}, {}})},
		{"five between, turned over", must(t, [][]int{{}, {0}, {0}, {0}, {0}, {0}, {1, 2, 3, 4, 5}})},
	}
}

// domainsWithTokens returns domains that have an information system.
func domainsWithTokens(t *testing.T) []sample {
	t.Helper()
	var all []sample
	for _, s := range slices.Concat(smallDomains(4), namedDomains(t), sevenElements(t)) {
		if n := len(s.order.Up); n > 1 && n <= 7 {
			all = append(all, s)
		}
	}
	return all
}

// tokensOf returns the element of each token of a domain.
func (a above) tokensOf() []int {
	var tokens []int
	for x := range a {
		if x != a.least() {
			tokens = append(tokens, x)
		}
	}
	return tokens
}

// setBelow returns the set of all tokens below an element.
func (a above) setBelow(x int) int {
	set := 0
	for token, y := range a.tokensOf() {
		if a[y][x] {
			set += 1 << token
		}
	}
	return set
}

// info returns the information system of a domain, sentence by sentence.
func (a above) info() impl.Info {
	tokens := a.tokensOf()
	s := impl.Info{Tokens: len(tokens)}
	for set := range 1 << len(tokens) {
		join := a.least()
		for token, x := range tokens {
			if set>>token&1 == 1 && join >= 0 {
				join = a.join(join, x)
			}
		}
		if join >= 0 { // in a domain, sets with a bound are those with a join
			s.Con, s.Entail = append(s.Con, set), append(s.Entail, a.setBelow(join))
		}
	}
	return s
}

// P41: against the definition, and valid.
func TestInfoOf(t *testing.T) {
	for _, s := range domainsWithTokens(t) {
		info, ok := impl.InfoOf(s.order)
		wantInfo(t, s.name+": InfoOf", info, ok, aboveOf(s.order).info())
		if !impl.InfoValid(info) || !infoHolds(info) {
			t.Errorf("%s: InfoOf = %v, not valid", s.name, info)
		}
	}
}

// P41: systems that are known, among them those of domains in which the least element is not the first one.
func TestInfoOfNamedDomains(t *testing.T) {
	for _, c := range []struct {
		name  string
		order impl.Order
		want  impl.Info
	}{
		{"chain of 2", chain(2), impl.Info{Tokens: 1, Con: []int{0, 1}, Entail: []int{0, 1}}},
		{"falling chain of 2", fallingChain(2), impl.Info{Tokens: 1, Con: []int{0, 1}, Entail: []int{0, 1}}},
		{"chain of 3", chain(3), impl.Info{Tokens: 2, Con: []int{0, 1, 2, 3}, Entail: []int{0, 1, 3, 3}}},
		{"falling chain of 3", fallingChain(3), impl.Info{Tokens: 2, Con: []int{0, 1, 2, 3}, Entail: []int{0, 3, 2, 3}}},
		{"flat of 2", flat(2), impl.Info{Tokens: 2, Con: []int{0, 1, 2}, Entail: []int{0, 1, 2}}},
		{"least is 2", must(t, [][]int{{}, {}, {0, 1}}), impl.Info{Tokens: 2, Con: []int{0, 1, 2}, Entail: []int{0, 1, 2}}},
		{"least is 1", must(t, [][]int{{}, {2}, {0}}), impl.Info{Tokens: 2, Con: []int{0, 1, 2, 3}, Entail: []int{0, 3, 2, 3}}},
		{"diamond", must(t, [][]int{{1, 2}, {3}, {3}, {}}), impl.Info{Tokens: 3, Con: []int{0, 1, 2, 3, 4, 5, 6, 7}, Entail: []int{0, 1, 2, 7, 7, 7, 7, 7}}},
		{"lift of flat of 2", must(t, [][]int{{1}, {2, 3}, {}, {}}), impl.Info{Tokens: 3, Con: []int{0, 1, 2, 3, 4, 5}, Entail: []int{0, 1, 3, 3, 5, 5}}},
		{"flat of 6", flat(6), impl.Info{Tokens: 6, Con: []int{0, 1, 2, 4, 8, 16, 32}, Entail: []int{0, 1, 2, 4, 8, 16, 32}}},
	} {
		info, ok := impl.InfoOf(c.order)
		wantInfo(t, c.name+": InfoOf", info, ok, c.want)
	}
}

// P41: the map of InfoBack keeps above both ways, and each element of the system comes from one of the domain.
func TestInfoOfIsTheDomain(t *testing.T) {
	for _, s := range domainsWithTokens(t) {
		info, _ := impl.InfoOf(s.order)
		d, ok := impl.InfoDomain(info)
		back, fine := impl.InfoBack(s.order)
		if !ok || !fine || len(d.Up) != len(s.order.Up) || len(back) != len(d.Up) {
			t.Errorf("%s: %v elements by %v, %v, %v", s.name, d.Up, back, ok, fine)
			continue
		}
		for x := range back {
			for y := range back {
				if impl.OrderBelow(s.order, x, y) != impl.OrderBelow(d, back[x], back[y]) {
					t.Errorf("%s: %d and %d become %d and %d", s.name, x, y, back[x], back[y])
				}
			}
		}
	}
}

// P42: against the definition.
func TestInfoBack(t *testing.T) {
	for _, s := range domainsWithTokens(t) {
		a := aboveOf(s.order)
		elements := elementsOf(a.info())
		var want []int
		for x := range a {
			want = append(want, slices.Index(elements, a.setBelow(x)))
		}
		back, ok := impl.InfoBack(s.order)
		wantList(t, s.name+": InfoBack", back, ok, want)
	}
}

// P42: no two are equal, and the least element goes to the empty set.
func TestInfoBackOneToOne(t *testing.T) {
	for _, s := range domainsWithTokens(t) {
		back, ok := impl.InfoBack(s.order)
		sorted := slices.Sorted(slices.Values(back))
		if !ok || !slices.Equal(sorted, identity(len(s.order.Up))) {
			t.Errorf("%s: InfoBack = %v, %v", s.name, back, ok)
			continue
		}
		info, _ := impl.InfoOf(s.order)
		elements, _ := impl.InfoElements(info)
		if elements[back[impl.OrderLeast(s.order)]] != 0 {
			t.Errorf("%s: InfoBack = %v, so that the least element goes to another set than the empty one", s.name, back)
		}
	}
}

// P42: lists that are known.
func TestInfoBackOfNamedDomains(t *testing.T) {
	for _, c := range []struct {
		name  string
		order impl.Order
		want  []int
	}{
		{"chain of 7", chain(7), []int{0, 1, 2, 3, 4, 5, 6}},
		{"falling chain of 7", fallingChain(7), []int{6, 5, 4, 3, 2, 1, 0}},
		{"flat of 6", flat(6), []int{0, 1, 2, 3, 4, 5, 6}},
		{"least is 2", must(t, [][]int{{}, {}, {0, 1}}), []int{1, 2, 0}},
		{"diamond turned over", must(t, [][]int{{}, {0}, {0}, {1, 2}}), []int{3, 1, 2, 0}},
		{"cube of 3 without its greatest element", must(t, [][]int{{1, 2, 4}, {3, 5}, {3, 6}, {}, {5, 6}, {}, {}}), []int{0, 1, 2, 3, 4, 5, 6}},
		{"turned round in part", must(t, [][]int{{2, 3}, {0}, {}, {}}), []int{1, 0, 2, 3}},
	} {
		back, ok := impl.InfoBack(c.order)
		wantList(t, c.name+": InfoBack", back, ok, c.want)
	}
}

// P41, P42: one element, more elements than there may be tokens, and what is no domain.
func TestInfoOfFails(t *testing.T) {
	tooMany := []sample{
		{"one element", chain(1)},
		{"flat of 0", flat(0)},
		{"chain of 8", chain(8)},
		{"falling chain of 8", fallingChain(8)},
		{"flat of 7", flat(7)},
		{"cube of 3", cube(3)},
		{"chain of 65", chain(65)},
		{"flat of 64", flat(64)},
		{"chain of 200", chain(200)},
		{"flat of 199", flat(199)},
	}
	var small []sample
	for n := 1; n <= 3; n++ {
		for code := range 1 << (n * n) {
			if a, d := relation(n, code); !a.isOrder() || !a.isDomain() {
				small = append(small, sample{fmt.Sprint(d.Up), d})
			}
		}
	}
	for _, s := range slices.Concat(tooMany, small, refused(t)) {
		info, ok := impl.InfoOf(s.order)
		wantNoInfo(t, s.name+": InfoOf", info, ok)
		back, ok := impl.InfoBack(s.order)
		wantNoList(t, s.name+": InfoBack", back, ok)
	}
}

// P40, P41: a domain of a system with at most TokensMax elements besides the least one has a system whose domain it is.
func TestInfoOfInfoDomain(t *testing.T) {
	for _, s := range systems() {
		d, _ := impl.InfoDomain(s.info)
		info, ok := impl.InfoOf(d)
		if len(d.Up) < 2 || len(d.Up) > 7 {
			wantNoInfo(t, s.name+": InfoOf", info, ok)
			continue
		}
		again, fine := impl.InfoDomain(info)
		if !ok || !fine || !impl.OrderSame(d, again) {
			t.Errorf("%s: the domain %v became %v", s.name, d.Up, again.Up)
		}
	}
}
