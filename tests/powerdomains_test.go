package tests

import (
	"slices"
	"testing"

	"loop.example/scottdomains/impl"
)

// The sets that the tests find by the definitions are as many as can be counted otherwise.
func TestPowersOfTheTests(t *testing.T) {
	for _, c := range []struct {
		sample sample
		counts [3]int
	}{
		{sample{"one element", chain(1)}, [3]int{1, 1, 1}},
		{sample{"chain of 4", chain(4)}, [3]int{4, 4, 10}},
		{sample{"chain of 7", chain(7)}, [3]int{7, 7, 28}},
		{sample{"flat of 2", flat(2)}, [3]int{4, 4, 7}},
		{sample{"flat of 6", flat(6)}, [3]int{64, 64, 127}},
	} {
		for i, kind := range kinds() {
			if p := powerOf(c.sample, kind); len(p.sets) != c.counts[i] {
				t.Errorf("%s: %d sets, want %d", p.name, len(p.sets), c.counts[i])
			}
		}
	}
	for _, s := range sevens(t) {
		if len(s.order.Up) != 7 || !aboveOf(s.order).isDomain() {
			t.Errorf("%s is no domain of 7 elements", s.name)
		}
	}
}

// P49: against the definition.
func TestPowerSets(t *testing.T) {
	for _, p := range powers(t) {
		sets, ok := impl.PowerSets(p.d, p.kind)
		wantList(t, p.name+": PowerSets", sets, ok, p.sets)
	}
}

// P49: the closure of each set is itself, and each closure is one of the sets, which ascend.
func TestPowerSetsAreClosed(t *testing.T) {
	for _, p := range powers(t) {
		sets, ok := impl.PowerSets(p.d, p.kind)
		if !ok || !slices.IsSorted(sets) || len(slices.Compact(slices.Clone(sets))) != len(sets) {
			t.Errorf("%s: PowerSets = %v, %v", p.name, sets, ok)
		}
		for _, set := range sets {
			closed, ok := impl.PowerClose(p.d, p.kind, set)
			wantIndex(t, p.name+": PowerClose of a closed set", closed, ok, set)
		}
		for _, set := range p.a.nonempty() {
			if closed, ok := impl.PowerClose(p.d, p.kind, set); !ok || !slices.Contains(sets, closed) {
				t.Errorf("%s: the closure %d of %d is none of %v", p.name, closed, set, sets)
			}
		}
	}
}

// P49: domains whose sets are known.
func TestPowerSetsOfNamedDomains(t *testing.T) {
	diamond := must(t, [][]int{{1, 2}, {3}, {3}, {}})
	for _, c := range []struct {
		name string
		d    impl.Order
		kind string
		want []int
	}{
		{"one element", chain(1), "lower", []int{1}},
		{"one element", chain(1), "upper", []int{1}},
		{"one element", chain(1), "convex", []int{1}},
		{"chain of 3", chain(3), "lower", []int{1, 3, 7}},
		{"chain of 3", chain(3), "upper", []int{4, 6, 7}},
		{"chain of 3", chain(3), "convex", []int{1, 2, 3, 4, 6, 7}},
		{"falling chain of 3", fallingChain(3), "lower", []int{4, 6, 7}},
		{"falling chain of 3", fallingChain(3), "upper", []int{1, 3, 7}},
		{"falling chain of 3", fallingChain(3), "convex", []int{1, 2, 3, 4, 6, 7}},
		{"flat of 2", flat(2), "lower", []int{1, 3, 5, 7}},
		{"flat of 2", flat(2), "upper", []int{2, 4, 6, 7}},
		{"flat of 2", flat(2), "convex", []int{1, 2, 3, 4, 5, 6, 7}},
		{"diamond", diamond, "lower", []int{1, 3, 5, 7, 15}},
		{"diamond", diamond, "upper", []int{8, 10, 12, 14, 15}},
		{"diamond", diamond, "convex", []int{1, 2, 3, 4, 5, 6, 7, 8, 10, 12, 14, 15}},
	} {
		sets, ok := impl.PowerSets(c.d, c.kind)
		wantList(t, c.name+", "+c.kind+": PowerSets", sets, ok, c.want)
	}
}

// P51: against the definition, for each nonempty set.
func TestPowerClose(t *testing.T) {
	for _, p := range powers(t) {
		for _, set := range p.a.nonempty() {
			closed, ok := impl.PowerClose(p.d, p.kind, set)
			wantIndex(t, p.name+": PowerClose", closed, ok, p.close(set))
		}
	}
}

// P51: the closure has the set, is its own closure, and is as high; the convex one is in both others.
func TestPowerCloseOnce(t *testing.T) {
	for _, p := range powers(t) {
		for _, set := range p.a.nonempty() {
			closed, _ := impl.PowerClose(p.d, p.kind, set)
			if again, ok := impl.PowerClose(p.d, p.kind, closed); !inside(set, closed) || !ok || again != closed {
				t.Errorf("%s: the closure of %d is %d, and of this %d", p.name, set, closed, again)
			}
			if !impl.PowerBelow(p.d, p.kind, set, closed) || !impl.PowerBelow(p.d, p.kind, closed, set) {
				t.Errorf("%s: %d and its closure %d are not below each other", p.name, set, closed)
			}
			convex, _ := impl.PowerClose(p.d, "convex", set)
			if !inside(convex, closed) {
				t.Errorf("%s: the convex closure %d of %d is not in %d", p.name, convex, set, closed)
			}
		}
	}
}

// P51: sets with elements between others, so that the convex closure adds some.
func TestPowerCloseBetween(t *testing.T) {
	diamond := must(t, [][]int{{1, 2}, {3}, {3}, {}})
	pentagon := must(t, [][]int{{1, 2}, {3}, {4}, {4}, {}})
	for _, c := range []struct {
		name         string
		d            impl.Order
		set          int
		lower, upper int
		convex       int
	}{
		{"chain of 3, both ends", chain(3), 5, 7, 7, 7},
		{"chain of 3, the middle", chain(3), 2, 3, 6, 2},
		{"chain of 7, both ends", chain(7), 65, 127, 127, 127},
		{"chain of 7, two inner ones", chain(7), 34, 63, 126, 62},
		{"chain of 7, three with gaps", chain(7), 42, 63, 126, 62},
		{"falling chain of 7, two inner ones", fallingChain(7), 34, 126, 63, 62},
		{"diamond, both ends", diamond, 9, 15, 15, 15},
		{"diamond, one side", diamond, 10, 15, 10, 10},
		{"diamond, both sides", diamond, 6, 7, 14, 6},
		{"diamond, the least one and both sides", diamond, 7, 7, 15, 7},
		{"pentagon, below and above of the long side", pentagon, 18, 31, 26, 26},
		{"pentagon, both ends", pentagon, 17, 31, 31, 31},
		{"pentagon, the short side and the end of the long one", pentagon, 12, 15, 28, 12},
		{"flat of 6, the least one and one more", flat(6), 3, 3, 127, 3},
		{"flat of 6, two others", flat(6), 6, 7, 6, 6},
		{"one element", chain(1), 1, 1, 1, 1},
	} {
		for i, want := range []int{c.lower, c.upper, c.convex} {
			closed, ok := impl.PowerClose(c.d, kinds()[i], c.set)
			wantIndex(t, c.name+", "+kinds()[i]+": PowerClose", closed, ok, want)
		}
	}
}

// P50: against the definition.
func TestPowerOrder(t *testing.T) {
	for _, p := range powers(t) {
		d, ok := impl.PowerOrder(p.d, p.kind)
		if want := p.order().order(); !ok || !sameLists(d.Up, want.Up) {
			t.Errorf("%s: PowerOrder = %v, %v, want %v", p.name, d.Up, ok, want.Up)
		}
	}
}

// P50: it is valid, the least element alone is below all, and the lower and the upper one are domains.
func TestPowerOrderIsValid(t *testing.T) {
	for _, p := range powers(t) {
		d, ok := impl.PowerOrder(p.d, p.kind)
		if !ok || !impl.OrderValid(d) || len(d.Up) != len(p.sets) {
			t.Errorf("%s: PowerOrder = %v, %v is not valid", p.name, d.Up, ok)
		}
		ones, _ := impl.PowerOne(p.d, p.kind)
		if least := ones[impl.OrderLeast(p.d)]; impl.OrderLeast(d) != least {
			t.Errorf("%s: the least set is %d, want %d", p.name, impl.OrderLeast(d), least)
		}
		if p.kind != "convex" && !impl.DomainIs(d) {
			t.Errorf("%s: PowerOrder is no domain", p.name)
		}
	}
}

// P50: the convex one succeeds also where it is no domain.
func TestPowerOrderThatIsNoDomain(t *testing.T) {
	broken := must(t, [][]int{{1, 2, 4}, {3, 5}, {3, 6}, {}, {5, 6}, {}, {}})
	for i, kind := range kinds() {
		d, ok := impl.PowerOrder(broken, kind)
		if !ok || !impl.OrderValid(d) || len(d.Up) != []int{18, 18, 81}[i] {
			t.Errorf("%s: PowerOrder has %d sets, %v", kind, len(d.Up), ok)
		}
		if impl.DomainIs(d) != (kind != "convex") {
			t.Errorf("%s: DomainIs = %v", kind, impl.DomainIs(d))
		}
	}
}

// P50: orders that are known.
func TestPowerOrderOfNamedDomains(t *testing.T) {
	for _, c := range []struct {
		name string
		d    impl.Order
		kind string
		want [][]int
	}{
		{"one element", chain(1), "lower", [][]int{{0}}},
		{"one element", chain(1), "upper", [][]int{{0}}},
		{"one element", chain(1), "convex", [][]int{{0}}},
		{"chain of 2", chain(2), "lower", [][]int{{0, 1}, {1}}},
		{"chain of 2", chain(2), "upper", [][]int{{0}, {0, 1}}},
		{"chain of 2", chain(2), "convex", [][]int{{0, 1, 2}, {1}, {1, 2}}},
		{"falling chain of 2", fallingChain(2), "lower", [][]int{{0, 1}, {1}}},
		{"falling chain of 2", fallingChain(2), "upper", [][]int{{0}, {0, 1}}},
		{"flat of 2", flat(2), "lower", [][]int{{0, 1, 2, 3}, {1, 3}, {2, 3}, {3}}},
		{"flat of 2", flat(2), "upper", [][]int{{0}, {1}, {0, 1, 2}, {0, 1, 2, 3}}},
		{"flat of 2", flat(2), "convex", [][]int{{0, 1, 2, 3, 4, 5, 6}, {1}, {1, 2, 5, 6}, {3}, {3, 4, 5, 6}, {5}, {5, 6}}},
	} {
		d, ok := impl.PowerOrder(c.d, c.kind)
		if !ok || !sameLists(d.Up, c.want) {
			t.Errorf("%s, %s: PowerOrder = %v, %v, want %v", c.name, c.kind, d.Up, ok, c.want)
		}
	}
}

// P50: as many sets as there can be, which are fewer than ElementsMax, succeed for each kind.
func TestPowerOrderOfManySets(t *testing.T) {
	for _, c := range []struct {
		kind string
		want int
	}{
		{"lower", 64}, {"upper", 64}, {"convex", 127},
	} {
		sets, fine := impl.PowerSets(flat(6), c.kind)
		d, ok := impl.PowerOrder(flat(6), c.kind)
		if !fine || !ok || len(sets) != c.want || len(d.Up) != c.want || !impl.OrderValid(d) {
			t.Errorf("%s: %d and %d sets, %v, %v, want %d", c.kind, len(sets), len(d.Up), fine, ok, c.want)
		}
	}
}

// P49 to P56: no domain of 7 elements has a powerdomain of more than ElementsMax sets.
func TestPowersNeverExceedElementsMax(t *testing.T) {
	for _, p := range powers(t) {
		sets, ok := impl.PowerSets(p.d, p.kind)
		if _, fine := impl.PowerOrder(p.d, p.kind); !ok || !fine || len(sets) > 1<<7-1 || len(sets) > impl.ElementsMax {
			t.Errorf("%s: %d sets, %v, %v", p.name, len(sets), ok, fine)
		}
	}
}

// P52: against the definition.
func TestPowerOne(t *testing.T) {
	for _, p := range powers(t) {
		ones, ok := impl.PowerOne(p.d, p.kind)
		wantList(t, p.name+": PowerOne", ones, ok, p.ones())
	}
}

// P52: elements are below each other exactly if the sets of each one alone are, and the indexes of PowerOne in PowerOrder.
func TestPowerOneKeepsTheOrder(t *testing.T) {
	for _, p := range powers(t) {
		ones, _ := impl.PowerOne(p.d, p.kind)
		d, _ := impl.PowerOrder(p.d, p.kind)
		for i := range p.a {
			for k := range p.a {
				below := impl.OrderBelow(p.d, i, k)
				if impl.PowerBelow(p.d, p.kind, 1<<i, 1<<k) != below || impl.OrderBelow(d, ones[i], ones[k]) != below {
					t.Errorf("%s: %d below %d is %v, but not so for the sets", p.name, i, k, below)
				}
			}
		}
	}
}

// P56: against the definition, for pairs of nonempty sets.
func TestPowerBelow(t *testing.T) {
	for _, p := range powers(t) {
		p.setPairs(func(set int, other int) {
			if got := impl.PowerBelow(p.d, p.kind, set, other); got != p.below(set, other) {
				t.Errorf("%s: PowerBelow of %d and %d = %v", p.name, set, other, got)
			}
		})
	}
}

// P56: below by elements: for the lower kind each one of the first set is below some of the second one,
// for the upper kind each one of the second set is above some of the first one, for the convex kind both.
func TestPowerBelowByElements(t *testing.T) {
	for _, p := range powers(t) {
		p.setPairs(func(set int, other int) {
			lower, upper := true, true
			for i := range p.a {
				fitsLow, fitsUp := !in(i, set), !in(i, other)
				for k := range p.a {
					fitsLow = fitsLow || in(k, other) && p.a[i][k]
					fitsUp = fitsUp || in(k, set) && p.a[k][i]
				}
				lower, upper = lower && fitsLow, upper && fitsUp
			}
			want := map[string]bool{"lower": lower, "upper": upper, "convex": lower && upper}[p.kind]
			if got := impl.PowerBelow(p.d, p.kind, set, other); got != want {
				t.Errorf("%s: PowerBelow of %d and %d = %v", p.name, set, other, got)
			}
		})
	}
}

// P56: it holds for both closures as well, PowerOrder has it, and the convex kind is both others together.
func TestPowerBelowOfClosures(t *testing.T) {
	for _, p := range powers(t) {
		d, _ := impl.PowerOrder(p.d, p.kind)
		sets, _ := impl.PowerSets(p.d, p.kind)
		p.setPairs(func(set int, other int) {
			below := impl.PowerBelow(p.d, p.kind, set, other)
			s, _ := impl.PowerClose(p.d, p.kind, set)
			r, _ := impl.PowerClose(p.d, p.kind, other)
			if impl.PowerBelow(p.d, p.kind, s, r) != below || impl.OrderBelow(d, slices.Index(sets, s), slices.Index(sets, r)) != below {
				t.Errorf("%s: PowerBelow of %d and %d is %v, but not so for %d and %d", p.name, set, other, below, s, r)
			}
			both := impl.PowerBelow(p.d, "lower", set, other) && impl.PowerBelow(p.d, "upper", set, other)
			if p.kind == "convex" && both != below {
				t.Errorf("%s: PowerBelow of %d and %d is %v, but of both kinds %v", p.name, set, other, below, both)
			}
		})
	}
}
