package tests

import (
	"slices"
	"testing"

	"loop.example/scottdomains/impl"
)

// P25: against the definition, for all lists of numbers, one too great among them.
func TestFunMonotone(t *testing.T) {
	for _, s := range smallDomains(3) {
		for _, r := range smallDomains(3) {
			a, b := aboveOf(s.order), aboveOf(r.order)
			for _, list := range allLists(len(a), len(b)+1) {
				if got := impl.FunMonotone(s.order, r.order, list); got != a.monotone(b, list) {
					t.Errorf("%s to %s: FunMonotone of %v = %v", s.name, r.name, list, got)
				}
			}
		}
	}
}

// P25: a monotone function is below itself, and has for elements below each other elements below each other.
func TestFunMonotoneKeepsBelow(t *testing.T) {
	for _, h := range homs(t) {
		for _, f := range h.funs {
			if !impl.FunMonotone(h.d, h.e, f) || !impl.FunBelow(h.d, h.e, f, f) {
				t.Errorf("%s: %v is not monotone or not below itself", h.name, f)
			}
			for x := range f {
				for y := range f {
					if impl.OrderBelow(h.d, x, y) && !impl.OrderBelow(h.e, f[x], f[y]) {
						t.Errorf("%s: %v does not keep %d below %d", h.name, f, x, y)
					}
				}
			}
		}
	}
}

// P25: domains whose functions are too many for a function domain have functions all the same.
func TestFunMonotoneOfLargeDomains(t *testing.T) {
	up, down := identity(200), identity(200)
	slices.Reverse(down)
	for _, c := range []struct {
		name string
		d, e impl.Order
		list []int
		want bool
	}{
		{"chain", chain(200), chain(200), up, true},
		{"chain turned round", chain(200), fallingChain(200), down, true},
		{"chain that falls", chain(200), chain(200), down, false},
		{"falling chain", fallingChain(200), fallingChain(200), up, true},
		{"flat", flat(199), flat(199), up, true},
		{"flat to one past the others", flat(199), flat(199), repeated(199, 200), true},
		{"flat to a chain", flat(199), chain(200), up, true},
		{"chain to flat", chain(200), flat(199), up, false},
		{"last two exchanged", chain(200), chain(200), append(identity(198), 199, 198), false},
	} {
		if got := impl.FunMonotone(c.d, c.e, c.list); got != c.want {
			t.Errorf("%s: FunMonotone = %v", c.name, got)
		}
	}
}

// P26: against the definition, with what changes nothing on both sides.
func TestFunAfter(t *testing.T) {
	small := append(smallDomains(2), sample{"flat of 2", flat(2)}, sample{"diamond", must(t, [][]int{{1, 2}, {3}, {3}, {}})})
	for _, s := range small {
		for _, r := range small {
			first := homOf(s, r)
			for _, f := range first.funs {
				list, ok := impl.FunAfter(first.d, first.e, first.e, f, identity(len(first.b)))
				wantList(t, first.name+": FunAfter with nothing changed behind", list, ok, f)
				list, ok = impl.FunAfter(first.d, first.d, first.e, identity(len(first.a)), f)
				wantList(t, first.name+": FunAfter with nothing changed ahead", list, ok, f)
			}
			for _, q := range small {
				second := homOf(r, q)
				wantAfter(t, first, second)
			}
		}
	}
}

// wantAfter fails if FunAfter of some functions of three domains is not one after the other.
func wantAfter(t *testing.T, first hom, second hom) {
	t.Helper()
	for i, f := range first.funs {
		for k, g := range second.funs {
			if (i+k)%5 > 0 && len(first.funs)*len(second.funs) > 500 {
				continue
			}
			var want []int
			for _, x := range f {
				want = append(want, g[x])
			}
			list, ok := impl.FunAfter(first.d, first.e, second.e, f, g)
			wantList(t, first.name+" and "+second.name+": FunAfter", list, ok, want)
			if !impl.FunMonotone(first.d, second.e, list) {
				t.Errorf("%s and %s: %v is not monotone", first.name, second.name, list)
			}
		}
	}
}

// P26: the domain between may have more elements than the others, or less.
func TestFunAfterOfLargeDomains(t *testing.T) {
	up := make([]int, 200)
	for i := range up {
		up[i] = min(i+1, 199)
	}
	list, ok := impl.FunAfter(chain(2), chain(200), flat(0), []int{7, 199}, repeated(0, 200))
	wantList(t, "to one element", list, ok, []int{0, 0})
	list, ok = impl.FunAfter(chain(2), chain(200), chain(200), []int{7, 198}, up)
	wantList(t, "through a chain", list, ok, []int{8, 199})
	list, ok = impl.FunAfter(chain(200), chain(1), flat(3), repeated(0, 200), []int{2})
	wantList(t, "through one element", list, ok, repeated(2, 200))
}

// leastFixed returns the least one of the elements that a function does not change.
func (h hom) leastFixed(f []int) int {
	for x := range f {
		fits := f[x] == x
		for y := range f {
			fits = fits && (f[y] != y || h.a[x][y])
		}
		if fits {
			return x
		}
	}
	return -1
}

// P27: against the definition, below each element above what the function has for it, with as many uses as change something.
func TestFunFix(t *testing.T) {
	several := 0
	for _, h := range selfs(t) {
		for _, f := range h.funs {
			x, n, ok := impl.FunFix(h.d, f)
			if !ok || x != h.leastFixed(f) || f[x] != x {
				t.Errorf("%s: FunFix of %v = %d, %v", h.name, f, x, ok)
			}
			uses := 0
			for at := h.a.least(); f[at] != at; at = f[at] {
				uses++
			}
			if n != uses || n >= impl.OrderHeight(h.d) {
				t.Errorf("%s: FunFix of %v has %d uses, want %d", h.name, f, n, uses)
			}
			fixed := 0
			for y := range f {
				if f[y] == y {
					fixed++
				}
				if impl.OrderBelow(h.d, f[y], y) && !impl.OrderBelow(h.d, x, y) {
					t.Errorf("%s: FunFix of %v = %d, not below %d", h.name, f, x, y)
				}
			}
			if fixed > 1 {
				several++
			}
		}
	}
	if several < 100 {
		t.Errorf("%d functions with several fixed points", several)
	}
}

// P27: one fixed point, several, the least element, and as many uses as there may be.
func TestFunFixOfNamedFunctions(t *testing.T) {
	up, down := make([]int, 200), make([]int, 200)
	for i := range up {
		up[i], down[i] = min(i+1, 199), max(i-1, 0)
	}
	diamond := must(t, [][]int{{1, 2}, {3}, {3}, {}})
	for _, c := range []struct {
		name    string
		d       impl.Order
		f       []int
		x, uses int
	}{
		{"one element", chain(1), []int{0}, 0, 0},
		{"nothing changed", chain(3), []int{0, 1, 2}, 0, 0},
		{"one fixed point", chain(3), []int{1, 2, 2}, 2, 2},
		{"two fixed points", chain(4), []int{1, 1, 3, 3}, 1, 1},
		{"two that are not below each other exchanged", diamond, []int{0, 2, 1, 3}, 0, 0},
		{"one step to the greatest element", diamond, []int{3, 3, 3, 3}, 3, 1},
		{"two steps to the greatest element", diamond, []int{1, 3, 1, 3}, 3, 2},
		{"least is 2", must(t, [][]int{{}, {}, {0, 1}}), []int{1, 1, 1}, 1, 1},
		{"least is 2, strict", must(t, [][]int{{}, {}, {0, 1}}), []int{1, 0, 2}, 2, 0},
		{"chain of 200", chain(200), up, 199, 199},
		{"falling chain of 200", fallingChain(200), down, 0, 199},
		{"flat of 199", flat(199), repeated(199, 200), 199, 1},
		{"flat of 199, strict", flat(199), append([]int{0}, repeated(7, 199)...), 0, 0},
	} {
		if x, n, ok := impl.FunFix(c.d, c.f); !ok || x != c.x || n != c.uses {
			t.Errorf("%s: FunFix = %d, %d, %v, want %d, %d", c.name, x, n, ok, c.x, c.uses)
		}
	}
}

// P32: against the definition.
func TestFunStrict(t *testing.T) {
	for _, h := range homs(t) {
		for _, f := range h.funs {
			if got, want := impl.FunStrict(h.d, h.e, f), f[h.a.least()] == h.b.least(); got != want {
				t.Errorf("%s: FunStrict of %v = %v", h.name, f, got)
			}
		}
	}
}

// P32: the least fixed point of a strict function is the least element.
func TestFunStrictFix(t *testing.T) {
	for _, h := range selfs(t) {
		for _, f := range h.funs {
			if x, _, ok := impl.FunFix(h.d, f); impl.FunStrict(h.d, h.e, f) != (ok && x == impl.OrderLeast(h.d)) {
				t.Errorf("%s: FunFix of %v = %d, %v", h.name, f, x, ok)
			}
		}
	}
}

// P36: against the definition, and both ways just for equal functions.
func TestFunBelow(t *testing.T) {
	for _, h := range homs(t) {
		h.pairs(func(f []int, g []int) {
			got := impl.FunBelow(h.d, h.e, f, g)
			if got != h.below(f, g) {
				t.Errorf("%s: FunBelow of %v and %v = %v", h.name, f, g, got)
			}
			if both := got && impl.FunBelow(h.d, h.e, g, f); both != slices.Equal(f, g) {
				t.Errorf("%s: FunBelow both ways of %v and %v = %v", h.name, f, g, both)
			}
		})
	}
}

// P36: least fixed points of functions below each other are below each other.
func TestFunBelowFix(t *testing.T) {
	for _, h := range selfs(t) {
		h.pairs(func(f []int, g []int) {
			x, _, _ := impl.FunFix(h.d, f)
			y, _, _ := impl.FunFix(h.d, g)
			if impl.FunBelow(h.d, h.e, f, g) && !impl.OrderBelow(h.d, x, y) {
				t.Errorf("%s: %v below %v, but not %d below %d", h.name, f, g, x, y)
			}
		})
	}
}

// P36: functions that are below each other for all elements but one.
func TestFunBelowBesides(t *testing.T) {
	for at := range 200 {
		f, g := repeated(1, 200), repeated(1, 200)
		f[0], g[0] = 0, 0
		f[at] = 2
		if at == 0 {
			f = repeated(1, 200)
		}
		if impl.FunBelow(flat(199), chain(3), f, g) {
			t.Errorf("FunBelow holds, but not at %d", at)
		}
		if !impl.FunBelow(flat(199), chain(3), g, f) {
			t.Errorf("FunBelow does not hold for more at %d", at)
		}
	}
}
