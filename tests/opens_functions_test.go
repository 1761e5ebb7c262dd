package tests

import (
	"fmt"
	"testing"

	"loop.example/scottdomains/impl"
)

// P57: functions of one element are as many as the elements, and functions to the flat domain of 1 as many as the opens.
func TestFunCountOfOpens(t *testing.T) {
	domains := 0
	for _, p := range spaces(t) {
		if !p.a.isDomain() {
			continue
		}
		domains++
		if got := impl.FunCount(flat(0), p.d); got != len(p.a) {
			t.Errorf("%s: FunCount of the flat domain of 0 = %d, want %d", p.name, got, len(p.a))
		}
		opens, ok := impl.Opens(p.d)
		if got := impl.FunCount(p.d, flat(1)); !ok || got != len(opens) {
			t.Errorf("%s: FunCount to the flat domain of 1 = %d, but %d opens, %v", p.name, got, len(opens), ok)
		}
	}
	if domains < 60 {
		t.Errorf("only %d domains", domains)
	}
}

// P64: against the definition, for functions that are continuous and others.
func TestOpenBack(t *testing.T) {
	spacePairs(t, func(p space, q space) {
		for _, f := range p.functions(q) {
			for i := 0; i < len(q.opens); i += 1 + len(q.opens)/5 {
				set := q.opens[i]
				got, ok := impl.OpenBack(p.d, q.d, f, set)
				wantIndex(t, fmt.Sprint(p.name, " to ", q.name, ": OpenBack of ", f, " and ", set), got, ok, back(f, set))
			}
		}
	})
}

// P64: of the whole set it is the whole set, of the empty one the empty one, also for functions that are not continuous.
func TestOpenBackOfAllAndNone(t *testing.T) {
	spacePairs(t, func(p space, q space) {
		f := make([]int, len(p.a))
		for i := range f {
			f[i] = (i*5 + 2) % len(q.a)
		}
		got, ok := impl.OpenBack(p.d, q.d, f, 0)
		wantIndex(t, p.name+" to "+q.name+": OpenBack of the empty set", got, ok, 0)
		got, ok = impl.OpenBack(p.d, q.d, f, q.whole())
		wantIndex(t, p.name+" to "+q.name+": OpenBack of all elements", got, ok, p.whole())
	})
}

// P64: for a continuous function it is its own inner set, and for each other one it is not so for some open set.
func TestOpenBackOfContinuousFunctions(t *testing.T) {
	spacePairs(t, func(p space, q space) {
		if len(p.a) > 5 || len(q.opens) > 40 {
			return
		}
		for _, f := range p.functions(q) {
			all := true
			for _, set := range q.opens {
				got, _ := impl.OpenBack(p.d, q.d, f, set)
				inner, ok := impl.OpenInner(p.d, got)
				all = all && ok && inner == got
			}
			if all != impl.OpenContinuous(p.d, q.d, f) {
				t.Errorf("%s to %s: OpenContinuous of %v is not %v", p.name, q.name, f, all)
			}
		}
	})
}

// P64: functions whose sets are known, a set that nothing goes to among them.
func TestOpenBackOfNamedFunctions(t *testing.T) {
	for _, c := range []struct {
		name string
		d, e impl.Order
		f    []int
		set  int
		want int
	}{
		{"one element", chain(1), chain(1), []int{0}, 1, 1},
		{"one element, none", chain(1), chain(1), []int{0}, 0, 0},
		{"nothing goes there", chain(3), chain(2), []int{0, 0, 0}, 2, 0},
		{"all go there", chain(3), chain(2), []int{1, 1, 1}, 2, 7},
		{"exchanged", chain(2), chain(2), []int{1, 0}, 2, 1},
		{"to fewer", loose(9), chain(2), []int{0, 1, 0, 1, 0, 1, 0, 1, 0}, 2, 170},
		{"to more", chain(2), loose(9), []int{8, 3}, 256, 1},
		{"nine elements turned round", chain(9), fallingChain(9), []int{8, 7, 6, 5, 4, 3, 2, 1, 0}, 7, 448},
	} {
		got, ok := impl.OpenBack(c.d, c.e, c.f, c.set)
		wantIndex(t, c.name+": OpenBack", got, ok, c.want)
	}
}

// P65: against the definition, also for orders that are no domains; the continuous functions are those that keep above.
func TestOpenContinuous(t *testing.T) {
	found := map[bool]int{}
	spacePairs(t, func(p space, q space) {
		for _, f := range p.functions(q) {
			got := impl.OpenContinuous(p.d, q.d, f)
			if got != p.continuous(q, f) || got != p.a.monotone(q.a, f) {
				t.Errorf("%s to %s: OpenContinuous of %v = %v", p.name, q.name, f, got)
			}
			found[got]++
		}
	})
	if found[true] < 1000 || found[false] < 1000 {
		t.Errorf("only %d continuous functions and %d others", found[true], found[false])
	}
}

// P65: for domains it holds exactly if FunMonotone does.
func TestOpenContinuousIsMonotone(t *testing.T) {
	var domains []space
	for _, s := range append(smallDomains(3), namedDomains(t)...) {
		domains = append(domains, spaceOf(s))
	}
	for _, s := range nines(t) {
		if aboveOf(s.order).isDomain() {
			domains = append(domains, spaceOf(s))
		}
	}
	for i, p := range domains {
		for k, q := range domains {
			if len(p.a)+len(q.a) > 8 && (i+k)%4 > 0 {
				continue
			}
			for _, f := range p.functions(q) {
				if impl.OpenContinuous(p.d, q.d, f) != impl.FunMonotone(p.d, q.d, f) {
					t.Errorf("%s to %s: OpenContinuous of %v is not FunMonotone", p.name, q.name, f)
				}
			}
		}
	}
}

// P65: functions that are continuous between orders of which one or both are no domains, where FunMonotone does not hold.
func TestOpenContinuousOfOtherOrders(t *testing.T) {
	below := must(t, [][]int{{2}, {2}, {}})
	for _, c := range []struct {
		name string
		d, e impl.Order
		f    []int
		want bool
	}{
		{"loose to a chain, any function", loose(2), chain(2), []int{1, 0}, true},
		{"chain to loose, one element", chain(2), loose(2), []int{1, 1}, true},
		{"chain to loose, two elements", chain(2), loose(2), []int{0, 1}, false},
		{"two least ones exchanged", below, below, []int{1, 0, 2}, true},
		{"two least below one, turned over", below, below, []int{2, 2, 0}, false},
		{"two least ones to the greatest", below, below, []int{2, 1, 2}, true},
		{"nine loose to nine in a chain", loose(9), chain(9), []int{8, 0, 7, 1, 6, 2, 5, 3, 4}, true},
		{"nine in a chain to nine loose", chain(9), loose(9), identity(9), false},
		{"nine in a chain, the last two exchanged", chain(9), chain(9), []int{0, 1, 2, 3, 4, 5, 6, 8, 7}, false},
	} {
		if got := impl.OpenContinuous(c.d, c.e, c.f); got != c.want {
			t.Errorf("%s: OpenContinuous = %v", c.name, got)
		}
	}
}
