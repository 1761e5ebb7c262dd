package tests

import (
	"fmt"
	"slices"
	"testing"

	"loop.example/scottdomains/impl"
)

// P28: against the definition; the index of the join is the join of both indexes, and where some join is missing there is none.
func TestFunJoin(t *testing.T) {
	some, none, parts := 0, 0, 0
	for _, h := range homs(t) {
		fun, valid := impl.DomainFun(h.d, h.e)
		h.pairs(func(f []int, g []int) {
			want, fine := each(f, g, h.b.join)
			list, ok := impl.FunJoin(h.d, h.e, f, g)
			what := fmt.Sprint(h.name, ": FunJoin of ", f, " and ", g)
			join := -1
			if valid {
				join = impl.OrderJoin(fun, h.index(f), h.index(g))
			}
			if !fine {
				none++
				if h.b.bounded(f[0], g[0]) || h.b.bounded(f[len(f)-1], g[len(g)-1]) {
					parts++
				}
				wantNoList(t, what, list, ok)
				if join != -1 {
					t.Errorf("%s: the indexes have the join %d", what, join)
				}
				return
			}
			some++
			wantList(t, what, list, ok, want)
			if !impl.FunMonotone(h.d, h.e, list) || !impl.FunBelow(h.d, h.e, f, list) || !impl.FunBelow(h.d, h.e, g, list) {
				t.Errorf("%s = %v, not monotone or not above both", what, list)
			}
			if valid && impl.DomainIndex(h.d, h.e, list) != join {
				t.Errorf("%s = %v, but the indexes have the join %d", what, list, join)
			}
		})
	}
	if some < 1000 || none < 1000 || parts < 100 {
		t.Errorf("%d joins, %d without, %d of these with a part", some, none, parts)
	}
}

// P28: one join alone is missing, at each place of many.
func TestFunJoinMissing(t *testing.T) {
	for at := 1; at < 200; at++ {
		f, g := repeated(1, 200), repeated(1, 200)
		f[0], g[0], g[at] = 0, 0, 2
		list, ok := impl.FunJoin(flat(199), flat(2), f, g)
		wantNoList(t, fmt.Sprint("FunJoin missing at ", at), list, ok)
		meet, ok := impl.FunMeet(flat(199), flat(2), f, g)
		want := slices.Clone(f)
		want[at] = 0
		wantList(t, fmt.Sprint("FunMeet of what has no join at ", at), meet, ok, want)
		g[at] = 0
		list, ok = impl.FunJoin(flat(199), flat(2), f, g)
		wantList(t, fmt.Sprint("FunJoin with the least element at ", at), list, ok, f)
	}
}

// P28: functions that have joins for some elements alone.
func TestFunJoinOfNamedFunctions(t *testing.T) {
	lifted := must(t, [][]int{{1}, {2, 3}, {}, {}})
	for _, c := range []struct {
		name          string
		d, e          impl.Order
		f, g, want    []int
		otherwiseNone bool
	}{
		{"for all", flat(2), flat(2), []int{0, 1, 0}, []int{0, 0, 2}, []int{0, 1, 2}, false},
		{"but for the last", flat(2), flat(2), []int{0, 1, 1}, []int{0, 1, 2}, nil, true},
		{"but for the first above", flat(2), flat(2), []int{0, 2, 1}, []int{0, 1, 1}, nil, true},
		{"for the least one alone", chain(2), flat(2), []int{0, 1}, []int{0, 2}, nil, true},
		{"for none", chain(3), flat(2), []int{1, 1, 1}, []int{2, 2, 2}, nil, true},
		{"for all but the greatest one", chain(3), lifted, []int{0, 1, 2}, []int{1, 1, 3}, nil, true},
		{"for the greatest one, too", chain(3), lifted, []int{0, 1, 2}, []int{1, 1, 1}, []int{1, 1, 2}, false},
		{"of one element", chain(1), flat(2), []int{1}, []int{2}, nil, true},
		{"of one element and the least one", chain(1), flat(2), []int{1}, []int{0}, []int{1}, false},
		{"to one element", flat(2), chain(1), []int{0, 0, 0}, []int{0, 0, 0}, []int{0, 0, 0}, false},
	} {
		for _, both := range [][2][]int{{c.f, c.g}, {c.g, c.f}} {
			list, ok := impl.FunJoin(c.d, c.e, both[0], both[1])
			if c.otherwiseNone {
				wantNoList(t, c.name, list, ok)
			} else {
				wantList(t, c.name, list, ok, c.want)
			}
		}
	}
}

// P29: against the definition; the index of the meet is the meet of both indexes.
func TestFunMeet(t *testing.T) {
	for _, h := range homs(t) {
		fun, valid := impl.DomainFun(h.d, h.e)
		h.pairs(func(f []int, g []int) {
			want, _ := each(f, g, h.b.meet)
			list, ok := impl.FunMeet(h.d, h.e, f, g)
			what := fmt.Sprint(h.name, ": FunMeet of ", f, " and ", g)
			wantList(t, what, list, ok, want)
			if !impl.FunMonotone(h.d, h.e, list) || !impl.FunBelow(h.d, h.e, list, f) || !impl.FunBelow(h.d, h.e, list, g) {
				t.Errorf("%s = %v, not monotone or not below both", what, list)
			}
			if !valid {
				return
			}
			if meet := impl.OrderMeet(fun, h.index(f), h.index(g)); impl.DomainIndex(h.d, h.e, list) != meet {
				t.Errorf("%s = %v, but the indexes have the meet %d", what, list, meet)
			}
		})
	}
}

// P28, P29: a function domain of just ElementsMax elements, and one of more.
func TestFunJoinAndMeetLimit(t *testing.T) {
	for _, n := range []int{199, 200} {
		d, e := chain(n), chain(2)
		fun, valid := impl.DomainFun(d, e)
		if valid != (n+1 <= impl.ElementsMax) {
			t.Fatalf("chain of %d to two: DomainFun %v", n, valid)
		}
		for k := 0; k <= n; k += 49 {
			for m := 0; m <= n; m += 66 {
				f := append(repeated(0, n-k), repeated(1, k)...)
				g := append(repeated(0, n-m), repeated(1, m)...)
				join, ok := impl.FunJoin(d, e, f, g)
				wantList(t, "FunJoin", join, ok, append(repeated(0, n-max(k, m)), repeated(1, max(k, m))...))
				meet, ok := impl.FunMeet(d, e, f, g)
				wantList(t, "FunMeet", meet, ok, append(repeated(0, n-min(k, m)), repeated(1, min(k, m))...))
				if valid && (impl.OrderJoin(fun, k, m) != impl.DomainIndex(d, e, join) || impl.OrderMeet(fun, k, m) != impl.DomainIndex(d, e, meet)) {
					t.Errorf("functions %d and %d: the indexes have other joins or meets", k, m)
				}
			}
		}
	}
}

// P30: against the definition; a step is below a function exactly if its second element is below what this has for the first one.
func TestFunStep(t *testing.T) {
	for _, h := range homs(t) {
		for a := range h.a {
			for b := range h.b {
				list, ok := impl.FunStep(h.d, h.e, a, b)
				what := fmt.Sprint(h.name, ": FunStep of ", a, " to ", b)
				want := repeated(h.b.least(), len(h.a))
				for i := range h.a {
					if h.a[a][i] {
						want[i] = b
					}
				}
				wantList(t, what, list, ok, want)
				if !impl.FunMonotone(h.d, h.e, list) || list[a] != b {
					t.Errorf("%s = %v", what, list)
				}
				for c := range h.b {
					if got := impl.FunBelow(h.d, h.e, list, repeated(c, len(h.a))); got != impl.OrderBelow(h.e, b, c) {
						t.Errorf("%s is below the function of %d: %v", what, c, got)
					}
				}
				for i := 0; i < len(h.funs); i += 1 + len(h.funs)/40 {
					if got := impl.FunBelow(h.d, h.e, list, h.funs[i]); got != impl.OrderBelow(h.e, b, h.funs[i][a]) {
						t.Errorf("%s is below %v: %v", what, h.funs[i], got)
					}
				}
			}
		}
	}
}

// P30: as many elements as there may be, and least elements with other numbers than 0.
func TestFunStepOfLargeDomains(t *testing.T) {
	for _, a := range []int{0, 1, 63, 64, 198, 199} {
		list, ok := impl.FunStep(chain(200), flat(199), a, 199)
		wantList(t, "chain to flat", list, ok, append(repeated(0, a), repeated(199, 200-a)...))
		list, ok = impl.FunStep(fallingChain(200), fallingChain(200), a, 5)
		wantList(t, "falling chain", list, ok, append(repeated(5, a+1), repeated(199, 199-a)...))
	}
}

// wantedSteps returns the elements that FunSteps tells of.
func (h hom) wantedSteps(f []int) []int {
	var list []int
	for x := range f {
		fits := f[x] != h.b.least()
		for y := range f {
			fits = fits && (y == x || !h.a[y][x] || f[y] != f[x])
		}
		if fits {
			list = append(list, x)
		}
	}
	return list
}

// P31: against the definition, and the join of the steps is the function.
func TestFunSteps(t *testing.T) {
	for _, h := range homs(t) {
		for _, f := range h.funs {
			list, ok := impl.FunSteps(h.d, h.e, f)
			what := fmt.Sprint(h.name, ": FunSteps of ", f)
			wantList(t, what, list, ok, h.wantedSteps(f))
			joined := repeated(impl.OrderLeast(h.e), len(h.a))
			for _, a := range list {
				step, _ := impl.FunStep(h.d, h.e, a, f[a])
				next, fine := impl.FunJoin(h.d, h.e, joined, step)
				if !fine {
					t.Fatalf("%s: no join with the step of %d", what, a)
				}
				joined = next
			}
			if !slices.Equal(joined, f) {
				t.Errorf("%s: the join of the steps is %v", what, joined)
			}
		}
	}
}

// P31: none, one, several for one element, and all but the least one.
func TestFunStepsOfNamedFunctions(t *testing.T) {
	diamond := must(t, [][]int{{1, 2}, {3}, {3}, {}})
	for _, c := range []struct {
		name    string
		d, e    impl.Order
		f, want []int
	}{
		{"least elements", flat(3), flat(3), []int{0, 0, 0, 0}, nil},
		{"one element for all", flat(3), flat(3), []int{2, 2, 2, 2}, []int{0}},
		{"one of one element", chain(1), chain(2), []int{1}, []int{0}},
		{"the least one of one element", chain(1), chain(2), []int{0}, nil},
		{"to one element", diamond, chain(1), []int{0, 0, 0, 0}, nil},
		{"the same element begins twice", diamond, chain(2), []int{0, 1, 1, 1}, []int{1, 2}},
		{"it begins at the greatest one", diamond, chain(2), []int{0, 0, 0, 1}, []int{3}},
		{"below, but not next to it", chain(4), chain(3), []int{0, 1, 1, 1}, []int{1}},
		{"nothing changed", chain(4), chain(4), []int{0, 1, 2, 3}, []int{1, 2, 3}},
		{"least is 2", must(t, [][]int{{}, {}, {0, 1}}), must(t, [][]int{{}, {}, {0, 1}}), []int{0, 2, 2}, []int{0}},
		{"falling", fallingChain(3), fallingChain(3), []int{0, 0, 2}, []int{1}},
		{"chain of 200", chain(200), chain(200), identity(200), identity(200)[1:]},
	} {
		list, ok := impl.FunSteps(c.d, c.e, c.f)
		wantList(t, c.name, list, ok, c.want)
	}
}
