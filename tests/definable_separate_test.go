package tests

import (
	"fmt"
	"slices"
	"testing"

	"loop.example/scottdomains/impl"
)

// apartCase is two terms of one first-order type with the elements that they mean.
type apartCase struct {
	a, b          string
	first, second definable
}

// apartCases returns terms for each two elements of up to one argument, and for each one of two arguments with some others, those that differ the least among them.
func apartCases() []apartCase {
	var all []apartCase
	for arity, size := range firstOrderSizes {
		elements, texts := definablesOf(arity), definableTexts(arity)
		var values [][]int
		for _, d := range elements {
			values = append(values, d.values())
		}
		for i := range size {
			for n, k := range partners(values, i) {
				a, b := texts[i][(k+n)%len(texts[i])], texts[k][(i*3+n)%len(texts[k])]
				all = append(all, apartCase{a, b, elements[i], elements[k]})
			}
		}
	}
	return all
}

// partners returns the numbers of the elements, told by their values, with which one is held together: of many just some.
func partners(values [][]int, i int) []int {
	var all []int
	for k, other := range values {
		differ := 0
		for at := range other {
			if other[at] != values[i][at] {
				differ++
			}
		}
		if len(values) < 12 || differ == 0 || differ == 1 && (i+k)%4 == 0 || (i*7+k*5)%61 == 0 {
			all = append(all, k)
		}
	}
	return all
}

// P96: against the definition: the first list for which the values differ, and none for terms of the same meaning.
func TestSeparate(t *testing.T) {
	met, same := map[string]int{}, 0
	for _, c := range apartCases() {
		want, there := c.first.firstApart(c.second.meaning)
		got, ok := impl.Separate(c.a, c.b)
		what := "Separate of " + c.a + " and " + c.b
		if !there {
			same++
			wantNoList(t, what, got, ok)
			continue
		}
		met[fmt.Sprint(want)]++
		wantList(t, what, got, ok, want)
		left, _ := impl.ElementValue(c.first.kind, c.first.k, got)
		right, _ := impl.ElementValue(c.second.kind, c.second.k, got)
		if left == right {
			t.Errorf("%s: the values are both %d", what, left)
		}
	}
	for _, list := range slices.Concat(allLists(0, 3), allLists(1, 3), allLists(2, 3)) {
		if met[fmt.Sprint(list)] < 2 {
			t.Errorf("%d terms are told apart by %v", met[fmt.Sprint(list)], list)
		}
	}
	if same < 200 {
		t.Errorf("%d terms mean the same", same)
	}
}

// P96: terms that are known by hand: the first list of several, more than one number, and the least elements.
func TestSeparateOfNamedTerms(t *testing.T) {
	for _, c := range []struct {
		a, b string
		want []int
	}{
		{"tt", "ff", []int{}},
		{"(bot b)", "tt", []int{}},
		{"(por ff ff)", "(fix x b x)", []int{}},
		{"(lam x b x)", "(lam x b tt)", []int{0}},
		{"(lam x b tt)", "(lam x b ff)", []int{0}},
		{"(bot (> b b))", "(lam x b tt)", []int{0}},
		{"(lam x b x)", "(lam x b (if x ff tt))", []int{1}},
		{"(lam x b x)", "(bot (> b b))", []int{1}},
		{"(lam x b x)", "(lam x b (if x ff ff))", []int{2}},
		{"(lam x b (por x (bot b)))", "(lam y b y)", []int{1}},
		{"(lam x b (if x tt (bot b)))", "(lam x b (if x ff (bot b)))", []int{2}},
		{"(lam x b (lam y b tt))", "(bot (> b (> b b)))", []int{0, 0}},
		{"(lam x b (lam y b x))", "(lam x b (lam y b y))", []int{0, 1}},
		{"(lam x b (lam y b (por x y)))", "(lam x b (lam y b (if x tt y)))", []int{0, 2}},
		{"(lam x b (lam y b (por x y)))", "(lam x b (lam y b (if y tt x)))", []int{2, 0}},
		{"(lam x b (lam y b (if x ff y)))", "(lam x b (lam y b (if x ff (if y tt (bot b)))))", []int{1, 1}},
		{"(lam x b (lam y b (if x y ff)))", "(lam x b (lam y b (if x y (bot b))))", []int{1, 0}},
		{"(lam x b (lam y b (if x y y)))", "(lam x b (lam y b (if x y (if y ff ff))))", []int{1, 2}},
		{"(lam x b (lam y b (if x y ff)))", "(lam x b (lam y b (if x (if y tt tt) ff)))", []int{2, 1}},
		{"(lam x b (lam y b (if x (if y tt (bot b)) (bot b))))", "(lam x b (bot (> b b)))", []int{2, 2}},
		{"(lam x b (lam y b (if x (if y tt ff) ff)))", "(lam x b (lam y b (if x (if y ff ff) ff)))", []int{2, 2}},
		{"(fix f (> b (> b b)) (lam x b (lam y b (if x y (app (app f tt) x)))))", "(lam x b (lam y b (if x y tt)))", []int{1, 0}},
		{"(app (lam f (> b b) f) (lam x b x))", "(lam x b tt)", nil}, // a function of functions means nothing
	} {
		for _, pair := range [][2]string{{c.a, c.b}, {c.b, c.a}} {
			got, ok := impl.Separate(pair[0], pair[1])
			if c.want == nil {
				wantNoList(t, "Separate of "+pair[0], got, ok)
			} else {
				wantList(t, "Separate of "+pair[0]+" and "+pair[1], got, ok, c.want)
			}
		}
	}
}

// P97: both terms applied to the list of Separate, in its order, are terms of b with different meanings.
func TestSeparateTerms(t *testing.T) {
	count := 0
	for _, c := range apartCases() {
		list, there := impl.Separate(c.a, c.b)
		first, second, ok := impl.SeparateTerms(c.a, c.b)
		if !there {
			wantText(t, "terms of the same meaning", first+second, ok, "", false)
			continue
		}
		wantText(t, "SeparateTerms, the first one", first, ok, appliedText(c.a, list), true)
		wantText(t, "SeparateTerms, the second one", second, ok, appliedText(c.b, list), true)
		left, fine := impl.LangMean(first)
		right, good := impl.LangMean(second)
		wantIndex(t, first, left, fine, c.first.has(list))
		wantIndex(t, second, right, good, c.second.has(list))
		if kind, typed := impl.LangType(first); left == right || !typed || kind != "b" {
			t.Errorf("%s and %s mean both %d", first, second, left)
		}
		count++
	}
	if count < 1000 {
		t.Errorf("%d terms", count)
	}
}

// P97: terms that are known by hand.
func TestSeparateTermsOfNamedTerms(t *testing.T) {
	for _, c := range [][4]string{
		{"tt", "(bot b)", "tt", "(bot b)"},
		{"(lam x b x)", "(lam x b tt)", "(app (lam x b x) (bot b))", "(app (lam x b tt) (bot b))"},
		{"(lam x b x)", "(lam x b (if x ff tt))", "(app (lam x b x) ff)", "(app (lam x b (if x ff tt)) ff)"},
		{"(lam x b x)", "(lam x b (if x ff ff))", "(app (lam x b x) tt)", "(app (lam x b (if x ff ff)) tt)"},
		{"(bot (> b (> b b)))", "(lam x b (lam y b (if x (bot b) y)))", "(app (app (bot (> b (> b b))) ff) ff)", "(app (app (lam x b (lam y b (if x (bot b) y))) ff) ff)"},
		{"(lam x b (lam y b (por x y)))", "(lam x b (lam y b (if x tt y)))", "(app (app (lam x b (lam y b (por x y))) (bot b)) tt)", "(app (app (lam x b (lam y b (if x tt y))) (bot b)) tt)"},
		{"(lam x b (lam y b (por x y)))", "(lam x b (lam y b (if y tt x)))", "(app (app (lam x b (lam y b (por x y))) tt) (bot b))", "(app (app (lam x b (lam y b (if y tt x))) tt) (bot b))"},
	} {
		first, second, ok := impl.SeparateTerms(c[0], c[1])
		wantText(t, "SeparateTerms of "+c[0], first, ok, c[2], true)
		wantText(t, "SeparateTerms of "+c[1], second, ok, c[3], true)
	}
}

// falseOf returns a term of b with so many atoms that means ff.
func falseOf(atoms int) string {
	if atoms%2 == 0 {
		return "(if tt " + anyOf(atoms-3) + " ff)"
	}
	return anyOf(atoms)
}

// P97: results of just TermMax atoms and of more, and of parentheses within each other just 200 times and 201 times, on each side.
func TestSeparateTermsAtTheLimit(t *testing.T) {
	wantAtoms := func(form string, other string, list []int, added int) {
		for atoms := impl.TermMax - added - 2; atoms <= impl.TermMax; atoms++ {
			long := wrapped(1, form, falseOf(atoms-atomsOf(form)+1))
			if atomsOf(long) != atoms || atomsOf(appliedText(long, list)) != atoms+added {
				t.Fatalf("%d and %d atoms, want %d", atomsOf(long), atomsOf(appliedText(long, list)), atoms)
			}
			wantTermsApart(t, fmt.Sprint(form, " with ", atoms, " atoms"), long, other, list, atoms+added <= impl.TermMax)
		}
	}
	wantAtoms("%", "tt", nil, 0)
	wantAtoms("(lam x b %)", "(lam x b x)", []int{0}, 3)
	wantAtoms("(lam x b (if x % tt))", "(lam x b (if x ff ff))", []int{1}, 2)
	wantAtoms("(lam x b (if x % tt))", "(lam x b (if x tt tt))", []int{2}, 2)
	wantAtoms("(lam x b (lam y b %))", "(lam x b (lam y b x))", []int{0, 0}, 6)
	wantAtoms("(lam x b (lam y b (if y % tt)))", "(lam x b (lam y b (if y tt tt)))", []int{0, 2}, 5)
	wantAtoms("(lam x b (lam y b (if x (if y % tt) tt)))", "(lam x b (lam y b (if x (if y tt tt) tt)))", []int{2, 2}, 4)
	wantDepth := func(form string, other string, list []int) {
		for depth := 196; depth <= 200; depth++ {
			deep := wrapped(1, form, wrapped(depth-depthOf(form), "(if tt % ff)", "ff"))
			if depthOf(deep) != depth {
				t.Fatalf("depth %d, want %d", depthOf(deep), depth)
			}
			wantTermsApart(t, fmt.Sprint(form, " of depth ", depth), deep, other, list, depth+len(list) <= 200)
		}
	}
	wantDepth("%", "tt", nil)
	wantDepth("(lam x b %)", "(lam x b x)", []int{0})
	wantDepth("(lam x b (if x % tt))", "(lam x b (if x tt tt))", []int{2})
	wantDepth("(lam x b (lam y b (if x (if y % tt) tt)))", "(lam x b (lam y b (if x (if y tt tt) tt)))", []int{2, 2})
}

// wantTermsApart fails if Separate of two terms, in each order, is not a list, or SeparateTerms is not both terms applied to it, or is there although one result is no term.
func wantTermsApart(t *testing.T, what string, a string, b string, list []int, there bool) {
	t.Helper()
	for _, c := range [][2]string{{a, b}, {b, a}} {
		got, ok := impl.Separate(c[0], c[1])
		wantList(t, what+": Separate", got, ok, list)
		want := [2]string{}
		if there {
			want = [2]string{appliedText(c[0], list), appliedText(c[1], list)}
		}
		first, second, ok := impl.SeparateTerms(c[0], c[1])
		wantText(t, what+": SeparateTerms, the first one", first, ok, want[0], there)
		wantText(t, what+": SeparateTerms, the second one", second, ok, want[1], there)
	}
}
