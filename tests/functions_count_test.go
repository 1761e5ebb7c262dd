package tests

import (
	"testing"

	"loop.example/scottdomains/impl"
)

// P23: against the definition, and as many as the function domain has elements, where there is one.
func TestFunCount(t *testing.T) {
	for _, h := range homs(t) {
		got := impl.FunCount(h.d, h.e)
		if got != len(h.funs) {
			t.Errorf("%s: FunCount = %d, want %d", h.name, got, len(h.funs))
		}
		fun, ok := impl.DomainFun(h.d, h.e)
		if ok != (got <= impl.ElementsMax) || ok && len(fun.Up) != got {
			t.Errorf("%s: FunCount = %d, but %d elements", h.name, got, len(fun.Up))
		}
	}
}

// P23: functions of chains are as many as the ways to choose; past 5000 they are not counted.
func TestFunCountOfChains(t *testing.T) {
	for n := 1; n <= 40; n += 1 + n/8 {
		for m := 1; m <= 40; m += 1 + m/8 {
			want := -1
			if min(n, m-1) <= 5 || n+m <= 20 { // all others are far too many, and choose would run over
				want = choose(n+m-1, min(n, m-1))
			}
			if want > 5000 {
				want = -1
			}
			if got := impl.FunCount(chain(n), chain(m)); got != want {
				t.Errorf("chain of %d to chain of %d: FunCount = %d, want %d", n, m, got, want)
			}
			if got := impl.FunCount(fallingChain(n), chain(m)); got != want {
				t.Errorf("falling chain of %d to chain of %d: FunCount = %d, want %d", n, m, got, want)
			}
		}
	}
}

// tree returns a chain of n elements, and a further element above each one of a list and all below it.
func tree(t *testing.T, n int, branches ...int) impl.Order {
	t.Helper()
	lists := make([][]int, n+len(branches))
	for i := range n - 1 {
		lists[i] = []int{i + 1}
	}
	for i, at := range branches {
		lists[at] = append(lists[at], n+i)
	}
	return must(t, lists)
}

// P23: just ElementsMax functions and more, and just 5000 and more.
func TestFunCountLimit(t *testing.T) {
	for _, c := range []struct {
		name string
		d, e impl.Order
		want int
	}{
		{"1 to 1", chain(1), chain(1), 1},
		{"200 to 1", chain(200), chain(1), 1},
		{"1 to 200", chain(1), fallingChain(200), 200},
		{"flat of 199 to 1", flat(199), chain(1), 1},
		{"chain of 199 to two", chain(199), chain(2), 200},
		{"chain of 200 to two", chain(200), chain(2), 201},
		{"two to flat of 199", chain(2), flat(199), 399},
		{"flat of 12 to two", flat(12), chain(2), 4097},
		{"flat of 13 to two", flat(13), chain(2), -1},
		{"chain of 98 to three", chain(98), chain(3), 4950},
		{"chain of 99 to three", chain(99), chain(3), -1},
		{"two to chain of 99", chain(2), chain(99), 4950},
		{"two to chain of 100", chain(2), chain(100), -1},
		{"two to a tree of 5000 pairs", chain(2), tree(t, 98, 73, 72), 5000},
		{"two to a tree of 5001 pairs", chain(2), tree(t, 98, 73, 73), -1},
		{"two to a tree of 4999 pairs", chain(2), tree(t, 98, 73, 71), 4999},
		{"chain of 25 to flat of 199", chain(25), flat(199), 4976},
		{"chain of 50 to flat of 100", chain(50), flat(100), -1},
		{"chain of 200 to flat of 24", chain(200), flat(24), 4801},
		{"chain of 200 to flat of 25", chain(200), flat(25), -1},
		{"chain of 200 to itself", chain(200), chain(200), -1},
		{"flat of 199 to itself", flat(199), flat(199), -1},
		{"flat of 199 to two", flat(199), chain(2), -1},
	} {
		if got := impl.FunCount(c.d, c.e); got != c.want {
			t.Errorf("%s: FunCount = %d, want %d", c.name, got, c.want)
		}
	}
}

// P23: of one element there are as many functions as elements, and to two elements as many as sets that have all above with each element.
func TestFunCountOfElementsAndSets(t *testing.T) {
	for _, s := range append(namedDomains(t), smallDomains(4)...) {
		if got := impl.FunCount(flat(0), s.order); got != len(s.order.Up) {
			t.Errorf("%s: FunCount of one element = %d", s.name, got)
		}
		if got := impl.FunCount(s.order, flat(0)); got != 1 {
			t.Errorf("%s: FunCount to one element = %d", s.name, got)
		}
		a, sets := aboveOf(s.order), 0
		for set := range 1 << len(a) {
			open := true
			for i := range a {
				for k := range a {
					open = open && !(set>>i&1 == 1 && a[i][k] && set>>k&1 == 0)
				}
			}
			if open {
				sets++
			}
		}
		if got := impl.FunCount(s.order, flat(1)); got != sets {
			t.Errorf("%s: FunCount to two elements = %d, want %d", s.name, got, sets)
		}
	}
}
