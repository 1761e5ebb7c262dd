package tests

import (
	"fmt"
	"math"
	"strings"
	"testing"

	"loop.example/scottdomains/impl"
)

// noShapes returns texts that are no shape, by what is wrong with them.
func noShapes() []string {
	return []string{
		"", " ", "  ", "y", "X", "U", "B", "l", "*", "+", ">", "(", ")", "()", "( )", "\x00", "\xff", "×", "λ", "0", "1", "tt", "-1",
		" x", "x ", "x\n", "\nx", "\tx", "x\x00", "xx", "x x", "x u", "(x)", "(u)", "(b)", "((l x))", "( l x)", "(l x )", " (l x)", "(l x) ",
		"(l  x)", "(lx)", "(l\tx)", "(l\nx)", "(l\u00a0x)", "(l x", "l x)", "l x", "(l x))", "(l)", "(l )", "(l x x)", "(l x u b)", "(L x)", "(l y)", "(l (x))",
		"(* x)", "(* x )", "(* x x", "(* x x))", "(* x  x)", "(*  x x)", "(*x x)", "(* xx)", "(* x x x)", "(* x x )", "( * x x)", "(x * x)", "(x x *)", "*", "(*)", "(* )",
		"(+ x)", "(+ x x", "(+ x  u)", "(+ x u b)", "(+x u)", "(- x x)", "(/ x x)", "(x x x)", "(u x x)", "(< x x)", "(= x x)", "(→ x x)", "(-> x x)", "(>> x x)",
		"(> x)", "(> x x", "(> x x))", "(>  x x)", "(> x  x)", "(> x x x)", "(>x x)", "(> (x) x)", "(> x (x))", "(> (> x x) x", "(> (> x x x)", "(> (> x) x x)", "(> () x)",
		"(> x x) x", "x (> x x)", "(> x x)(> x x)", "(> x x) (> x x)", "(l x)(l x)", "(> (l x)x)", "(>(l x) x)", "(> x(l x))",
		"[l x]", "{l x}", "<l x>", "(l [x])", "(l x]", "l(x)", "l", "b u", "(b x)", "(> x y)", "(> y x)", "(+ X u)", "(* x 1)",
		nested(12, "x"), nested(12, "u"), nested(100000, "x"), strings.Repeat("(l ", 100000), strings.Repeat("(", 100000), strings.Repeat(" ", 100000),
		"(* (* x x) (* (* x x) (* (* x x) x)))", "(> (> (> (> (> (> x u) u) u) u) u) u)", "(> u (> u (> u (> u (> u (> u x))))))",
	}
}

// outside returns numbers that are none from 0 to a last one.
func outside(last int) []int {
	return []int{-1, -2, -last - 1, last + 1, last + 2, 7, 8, 64, 200, 256, 1 << 32, -1 << 32, 1 << 62, math.MinInt, math.MinInt + 1, math.MaxInt - 1, math.MaxInt}
}

// wantNoStages fails if some function of stages gives anything for a text and a number, with whatever element.
func wantNoStages(t *testing.T, what string, s string, n int) {
	t.Helper()
	d, ok := impl.ShapeStage(s, n)
	wantNoOrder(t, what+": ShapeStage", d, ok)
	up, down, ok := impl.ShapeLink(s, n)
	wantNoPair(t, what+": ShapeLink", up, down, ok)
	for _, k := range []int{-1, 0, 1, 2} {
		rank, ok := impl.ShapeRank(s, n, k)
		wantNoIndex(t, what+": ShapeRank", rank, ok)
	}
}

// wantNoPassage fails if some function accepts two lists as a projection pair, alone, ahead of or behind a good one, or to be mapped.
func wantNoPassage(t *testing.T, what string, d impl.Order, e impl.Order, up []int, down []int) {
	t.Helper()
	if impl.PairIs(d, e, up, down) {
		t.Errorf("%s: PairIs of %v and %v", what, up, down)
	}
	below, above := identity(len(d.Up)), identity(len(e.Up))
	gotUp, gotDown, ok := impl.PairAfter(d, d, e, below, below, up, down)
	wantNoPair(t, what+": PairAfter, second", gotUp, gotDown, ok)
	gotUp, gotDown, ok = impl.PairAfter(d, e, e, up, down, above, above)
	wantNoPair(t, what+": PairAfter, first", gotUp, gotDown, ok)
	gotUp, gotDown, ok = impl.PairAfter(d, e, d, up, down, down, up)
	wantNoPair(t, what+": PairAfter, both", gotUp, gotDown, ok)
	for _, s := range []string{"x", "u", "(l x)", "(> x u)", "(> u u)"} {
		gotUp, gotDown, ok = impl.ShapeMap(s, d, e, up, down)
		wantNoPair(t, what+": ShapeMap of "+s, gotUp, gotDown, ok)
	}
}

// P70 to P77: texts that are no shape.
func TestShapesOfOtherTexts(t *testing.T) {
	for _, s := range noShapes() {
		what := fmt.Sprintf("%.40q", s)
		if impl.ShapeValid(s) {
			t.Errorf("ShapeValid(%s)", what)
		}
		for _, x := range []impl.Order{chain(1), chain(2), flat(2), {}, loose(2)} {
			d, ok := impl.ShapeDomain(s, x)
			wantNoOrder(t, what+": ShapeDomain", d, ok)
			list := identity(len(x.Up))
			up, down, ok := impl.ShapeMap(s, x, x, list, list)
			wantNoPair(t, what+": ShapeMap", up, down, ok)
		}
		for _, n := range []int{-1, 0, 1, 5, 6, 7} {
			wantNoStages(t, what, s, n)
		}
		sizes, ok := impl.ShapeSizes(s)
		wantNoList(t, what+": ShapeSizes", sizes, ok)
	}
}

// P71, P72: orders that are no domain, at each place, for shapes without x, too.
func TestShapesOfOtherOrders(t *testing.T) {
	for _, s := range refused(t) {
		n := len(s.order.Up)
		for _, shape := range []string{"x", "u", "b", "(l x)", "(l u)", "(> x u)", "(> u x)", "(* u u)", "(+ b b)"} {
			d, ok := impl.ShapeDomain(shape, s.order)
			wantNoOrder(t, s.name+": ShapeDomain of "+shape, d, ok)
			for _, list := range [][]int{nil, {0}, {0, 1}, repeated(0, n), identity(n)} {
				for _, pair := range [][2]impl.Order{{s.order, s.order}, {s.order, chain(2)}, {chain(2), s.order}, {chain(1), s.order}} {
					for _, other := range [][]int{{0, 0}, {0, 1}, repeated(0, n), identity(n)} {
						up, down, ok := impl.ShapeMap(shape, pair[0], pair[1], list, other)
						wantNoPair(t, s.name+": ShapeMap of "+shape, up, down, ok)
					}
				}
			}
		}
	}
}

// P67 to P69: orders that are no domain, at each place.
func TestPairsOfOtherOrders(t *testing.T) {
	for _, s := range refused(t) {
		n := len(s.order.Up)
		zeros, same, good := repeated(0, n), identity(n), chain(1)
		for _, up := range [][]int{nil, {0}, zeros, same} {
			for _, e := range []impl.Order{s.order, chain(1), chain(2)} {
				down, ok := impl.ProjectionOf(s.order, e, up)
				wantNoList(t, s.name+": ProjectionOf", down, ok)
				down, ok = impl.ProjectionOf(e, s.order, up)
				wantNoList(t, s.name+": ProjectionOf", down, ok)
			}
			if impl.PairIs(s.order, s.order, up, up) || impl.PairIs(good, s.order, up, zeros) || impl.PairIs(s.order, good, zeros, up) {
				t.Errorf("%s: PairIs of %v", s.name, up)
			}
		}
		one := []int{0}
		for k, c := range []struct{ d, e, f impl.Order }{
			{s.order, good, good}, {good, s.order, good}, {good, good, s.order}, {s.order, s.order, s.order},
		} {
			for _, list := range [][]int{zeros, same} {
				for _, lists := range [][4][]int{{one, one, one, one}, {one, list, list, one}, {list, one, one, list}, {one, one, one, list}, {list, list, list, list}} {
					up, down, ok := impl.PairAfter(c.d, c.e, c.f, lists[0], lists[1], lists[2], lists[3])
					wantNoPair(t, fmt.Sprint(s.name, ": PairAfter ", k), up, down, ok)
				}
			}
		}
	}
}

// P67, P68, P72: lists of another length, nil lists, lists that are not monotone, at each of both places.
func TestPairsOfOtherLists(t *testing.T) {
	for i, p := range append(smallPassages(), largerPassages(t)...) {
		if i%3 != 0 && len(p.b) < 4 {
			continue
		}
		for name, bad := range noFunctions(p.d(), p.e()) {
			wantNoPassage(t, p.name+", up "+name, p.d(), p.e(), bad, p.down)
		}
		for name, bad := range noFunctions(p.e(), p.d()) {
			wantNoPassage(t, p.name+", down "+name, p.d(), p.e(), p.up, bad)
		}
		if len(p.a) != len(p.b) {
			wantNoPassage(t, p.name+", exchanged", p.d(), p.e(), p.down, p.up)
		}
	}
}

// P67, P68, P72: monotone functions that are no projection pair in one of both ways, each one alone.
func TestPairsThatFailOneWay(t *testing.T) {
	changed, more := 0, 0
	for _, h := range homs(t) {
		if len(h.a) > 4 || len(h.b) > 4 {
			continue
		}
		back := h.b.functions(h.a)
		for i, up := range h.funs {
			down := back[(i*7)%len(back)]
			keeps, lowers := true, true
			for m := range h.a {
				keeps = keeps && down[up[m]] == m
			}
			for k := range h.b {
				lowers = lowers && h.b[up[down[k]]][k]
			}
			if keeps && lowers {
				continue
			}
			if lowers {
				changed++
			}
			if keeps {
				more++
			}
			wantNoPassage(t, h.name, h.d, h.e, up, down)
		}
	}
	wantNoPassage(t, "more from above", chain(1), chain(2), []int{1}, []int{0, 0})
	wantNoPassage(t, "changed from below", chain(2), chain(2), []int{0, 0}, []int{0, 0})
	if changed < 20 || more < 5 {
		t.Errorf("%d pairs change something from below alone, %d give more from above alone", changed, more)
	}
}

// P68: two pairs that do not meet.
func TestPairAfterOfOthers(t *testing.T) {
	up, down := []int{0, 1}, []int{0, 1, 1}
	for _, c := range []struct {
		name    string
		d, e, f impl.Order
		more    []int
		less    []int
	}{
		{"the second one is one of the first domain", chain(2), chain(3), chain(4), []int{0, 1}, []int{0, 1, 1, 1}},
		{"the second one is the first one", chain(2), chain(3), chain(3), up, down},
		{"the second one turned round", chain(2), chain(3), chain(2), down, up},
		{"one as long to another domain", chain(2), chain(3), flat(3), []int{0, 1, 2}, []int{0, 1, 2, 0}},
		{"the third domain is the second one", chain(2), chain(3), chain(3), []int{0, 1, 2}, []int{0, 1, 2, 2}},
	} {
		got, back, ok := impl.PairAfter(c.d, c.e, c.f, up, down, c.more, c.less)
		wantNoPair(t, c.name, got, back, ok)
	}
	got, back, ok := impl.PairAfter(chain(2), chain(3), chain(4), up, down, []int{0, 1, 2}, []int{0, 1, 2, 2})
	wantPair(t, "that meet", got, back, ok, passage{up: []int{0, 1}, down: []int{0, 1, 1, 1}})
}

// P69: lists that are no monotone function.
func TestProjectionOfOtherLists(t *testing.T) {
	for _, h := range homs(t) {
		for name, bad := range noFunctions(h.d, h.e) {
			down, ok := impl.ProjectionOf(h.d, h.e, bad)
			wantNoList(t, h.name+": ProjectionOf, "+name, down, ok)
		}
	}
}

// P74, P75, P77: numbers of stages that are negative, or greater than the limit.
func TestStagesOfOtherNumbers(t *testing.T) {
	for _, s := range []string{"x", "u", "b", "(l x)", "(> x x)", "(* x (l u))", nested(3, "(> b (> b b))")} {
		for _, n := range outside(impl.StagesMax) {
			wantNoStages(t, fmt.Sprint(s, ", ", n), s, n)
		}
		up, down, ok := impl.ShapeLink(s, impl.StagesMax)
		wantNoPair(t, s+": ShapeLink of the last stage", up, down, ok)
	}
}

// P77: elements that are none.
func TestShapeRankOfNoElements(t *testing.T) {
	for _, s := range append(smallShapes(2), namedShapes()...) {
		sizes, _ := impl.ShapeSizes(s)
		for n, size := range sizes {
			for _, k := range append(outside(size-1), -size) {
				if k < 0 || k >= size {
					rank, ok := impl.ShapeRank(s, n, k)
					wantNoIndex(t, fmt.Sprint(s, ": ShapeRank of ", n, " and ", k), rank, ok)
				}
			}
		}
		rank, ok := impl.ShapeRank(s, len(sizes), 0)
		wantNoIndex(t, s+": ShapeRank of no stage", rank, ok)
	}
}
