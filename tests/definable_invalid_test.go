package tests

import (
	"fmt"
	"strings"
	"testing"

	"loop.example/scottdomains/impl"
)

// P89 to P92: texts that are no type, and types that are not first-order, with numbers of elements and others.
func TestDefinableOfOtherTypes(t *testing.T) {
	for _, kind := range noFirstOrders() {
		for _, k := range []int{0, 1, 2, 5, 10, 196, -1, 197} {
			wantNoDefinable(t, kind, k)
		}
	}
}

// P95, P98: texts that are no type, and types that are not first-order.
func TestCountsOfOtherTypes(t *testing.T) {
	for _, kind := range noFirstOrders() {
		if got := impl.SequentialCount(kind); got != -1 {
			t.Errorf("SequentialCount(%.60q) = %d", kind, got)
		}
		if got := impl.StableCount(kind); got != -1 {
			t.Errorf("StableCount(%.60q) = %d", kind, got)
		}
	}
}

// P89 to P92: numbers that are no elements: negative, just the size, and more.
func TestDefinableOfOtherNumbers(t *testing.T) {
	for arity, kind := range firstOrders {
		size := firstOrderSizes[arity]
		for _, k := range append(outside(size-1), size, size+1, size+2, -size, 1<<16, 1<<32+1) {
			if k < 0 || k >= size {
				wantNoDefinable(t, kind, k)
			}
		}
		if _, ok := impl.ParallelTerm(kind, size-1); !ok || !impl.Sequential(kind, size-1) {
			t.Errorf("%s: there is no element %d", kind, size-1)
		}
	}
}

// P89: lists that are too short, too long, empty, nil, or with numbers out of 0 to 2.
func TestElementValueOfOtherLists(t *testing.T) {
	for arity, kind := range firstOrders {
		lists := [][]int{{3, 0}, {0, 3}, {-1, 2}, {2, -1}, {0, 0, 0}, {3}, {-1}, {-3}, {4}, {1 << 32}, {-1 << 63}, repeated(2, 9), repeated(1, 200)}
		if arity > 0 {
			for _, list := range noLists(arity, 3) {
				lists = append(lists, list)
			}
		}
		for short := range arity {
			lists = append(lists, repeated(1, short))
		}
		for k := range firstOrderSizes[arity] {
			for _, list := range append(lists, repeated(0, arity+1), repeated(2, arity+1), repeated(3, arity+1)) {
				value, ok := impl.ElementValue(kind, k, list)
				wantNoIndex(t, fmt.Sprint("ElementValue of ", k, " of ", kind, " for ", list), value, ok)
			}
		}
	}
	for _, list := range [][]int{nil, {}} {
		value, ok := impl.ElementValue("b", 2, list)
		wantIndex(t, "ElementValue without arguments", value, ok, 2)
	}
}

// P96, P97: texts that are no term, beside themselves and beside terms.
func TestSeparateOfOtherTexts(t *testing.T) {
	goods := []string{"tt", "(lam x b x)", "(lam x b (lam y b y))"}
	for i, text := range noTerms() {
		wantNotApart(t, text, text)
		wantNotApart(t, text, goods[i%len(goods)])
		wantNotApart(t, text, "")
	}
	for _, good := range goods {
		for _, bad := range []string{good + " ", " " + good, "(" + good + ")", good + good, good + "\n", strings.ToUpper(good)} {
			wantNotApart(t, bad, "(bot b)")
			wantNotApart(t, bad, "(bot (> b b))")
			wantNotApart(t, bad, "(bot (> b (> b b)))")
		}
	}
}

// P96, P97: terms that are not closed, terms without a type, and terms that mean nothing, though their types are first-order, beside themselves and beside terms of each first-order type.
func TestSeparateOfTermsWithoutMeaning(t *testing.T) {
	for _, text := range []string{
		"x", "b", "(lam x b y)", "(lam x b (lam y b z))", "(por x tt)", "(lam x b (por x y))", "(app (lam x b x) y)",
		"(app tt tt)", "(fst tt)", "(lam x b (app x x))", "(if tt tt (lam x b x))", "(por tt (lam x b x))", "(lam x b (lam y b (app x y)))", "(fix x b (lam y b x))",
		"(if tt tt (app (bot (> (> b b) b)) (lam x b x)))", "(app (lam f (> b b) tt) (lam x b x))", "(fst (pair tt (bot (> (> b b) b))))",
		"(lam x b (app (lam f (> b b) (app f x)) (lam y b y)))", "(lam x b (fst (pair x (bot (> b (> b b))))))", "(lam x b (lam y b (app (app (lam z b (lam y b (lam x b x))) x) y)))", "(lam x b (lam y b (app (bot (> (> b b) b)) (lam z b y))))",
	} {
		for _, other := range []string{text, "tt", "ff", "(bot b)", "(lam x b x)", "(bot (> b b))", "(lam x b (lam y b y))", "(bot (> b (> b b)))"} {
			wantNotApart(t, text, other)
		}
	}
}

// P96, P97: terms of two types, and of one that is not first-order, also with different meanings.
func TestSeparateOfOtherTypes(t *testing.T) {
	for _, c := range [][2]string{
		{"tt", "(lam x b tt)"},
		{"ff", "(lam x b (lam y b tt))"},
		{"(lam x b ff)", "(lam x b (lam y b tt))"},
		{"(bot b)", "(bot (> b b))"}, // the same number of two types
		{"(bot (> b b))", "(bot (> b (> b b)))"},
		{"tt", "(bot (* b b))"},
		{"tt", "(pair tt ff)"},
		{"(lam x b x)", "(lam x b (pair x x))"},
		{"(lam x b (lam y b x))", "(lam p (* b b) (fst p))"},
		{"(pair tt tt)", "(pair tt ff)"},
		{"(pair tt tt)", "(bot (* b b))"},
		{"(lam x b (pair x x))", "(lam x b (pair x tt))"},
		{"(lam p (* b b) (fst p))", "(lam p (* b b) (snd p))"},
		{"(pair tt (lam x b x))", "(pair tt (lam x b tt))"},
		{"(lam x b (lam y b (lam z b x)))", "(lam x b (lam y b (lam z b y)))"},
		{"(lam f (> b b) (app f tt))", "(lam f (> b b) (app f ff))"},
		{"(lam f (> b b) f)", "(bot (> (> b b) (> b b)))"},
	} {
		for _, text := range c {
			if kind, ok := impl.LangType(text); !ok || kind == "" {
				t.Errorf("%s has no type", text)
			}
		}
		wantNotApart(t, c[0], c[1])
		wantNotApart(t, c[0], c[0])
		wantNotApart(t, c[1], c[1])
	}
}

// P96, P97: terms of one first-order type that mean the same.
func TestSeparateOfTheSame(t *testing.T) {
	for _, c := range [][2]string{
		{"tt", "(por (bot b) tt)"},
		{"(bot b)", "(fix x b x)"},
		{"ff", "(app (lam x b (if x ff tt)) tt)"},
		{"(lam x b x)", "(lam y b (if y tt ff))"},
		{"(lam x b tt)", "(lam x b (por x tt))"},
		{"(bot (> b b))", "(lam x b (bot b))"},
		{"(lam x b (lam y b (por x y)))", "(lam x b (lam y b (por y x)))"},
		{"(bot (> b (> b b)))", "(lam x b (bot (> b b)))"},
		{"(lam x b (lam y b (if x y (bot b))))", "(lam x b (lam y b (if x (if y tt ff) (if y (bot b) (bot b)))))"},
	} {
		if !impl.LangSame(c[0], c[1]) {
			t.Errorf("%s and %s are not the same", c[0], c[1])
		}
		wantNotApart(t, c[0], c[1])
		wantNotApart(t, c[0], c[0])
	}
}
