package tests

import (
	"fmt"
	"math"
	"slices"
	"strings"
	"testing"

	"loop.example/scottdomains/impl"
)

// wantDomain fails if LangDomain of a text is not the domain of the document's sentence, or the text is no known type and has one.
func wantDomain(t *testing.T, s senses, text string) bool {
	t.Helper()
	got, ok := impl.LangDomain(text)
	what := fmt.Sprintf("LangDomain(%.60q)", text)
	if !isType(text) || s.of(text) == nil {
		wantNoOrder(t, what, got, ok)
		return false
	}
	wantOrder(t, what, got, ok, s.of(text).order.order())
	return true
}

// P78: against the definition, for all types.
func TestLangDomain(t *testing.T) {
	s, known := senses{}, 0
	for _, kind := range allTypes() {
		if !isType(kind) {
			t.Errorf("%s is no type", kind)
		}
		if wantDomain(t, s, kind) {
			known++
		}
	}
	if len(allTypes()) != 275 || known != 22 {
		t.Errorf("%d types, %d known", len(allTypes()), known)
	}
}

// P78: that of pairs with b, if it is known, has three times as many elements, on both sides.
func TestLangDomainOfPairs(t *testing.T) {
	for _, kind := range allTypes() {
		d, fits := impl.LangDomain(kind)
		for _, pairs := range []string{"(* " + kind + " b)", "(* b " + kind + ")"} {
			e, ok := impl.LangDomain(pairs)
			want := fits && len(d.Up)*3 <= impl.ElementsMax && atomsOf(pairs) <= 9
			if ok != want || ok && (len(e.Up) != 3*len(d.Up) || !impl.DomainIs(e)) {
				t.Errorf("%s has %d elements, %v, want 3 times %d, %v", pairs, len(e.Up), ok, len(d.Up), want)
			}
		}
	}
}

// P78: sizes that are known, and types that are not: the whole, or just a part, has more than ElementsMax elements.
func TestLangDomainOfNamedTypes(t *testing.T) {
	for _, c := range []struct {
		kind string
		size int // 0 if it is not known
	}{
		{"b", 3},
		{"(> b b)", 11},
		{"(* b b)", 9},
		{"(> b (> b b))", 197},
		{"(> (* b b) b)", 197},
		{"(> b (* b b))", 121},
		{"(* b (> b b))", 33},
		{"(* (> b b) b)", 33},
		{"(* (> b b) (> b b))", 121},
		{"(* (* b b) (* b b))", 81},
		{"(* b (* b (* b b)))", 81},
		{"(> (> b b) b)", 0},
		{"(> (> b b) (> b b))", 0},
		{"(> b (> b (> b b)))", 0},
		{"(* b (> b (> b b)))", 0},
		{"(* (> (> b b) b) b)", 0},
		{"(> (> (> b b) b) b)", 0},
		{"(> b (* b (* b b)))", 0},
		{"(* b (* b (* b (* b b))))", 0}, // of 9 atoms
		{"(* (* b b) (* b (> b b)))", 0},
		{"(> (> b b) (* b (* b b)))", 0},
	} {
		d, ok := impl.LangDomain(c.kind)
		if ok != (c.size > 0) || len(d.Up) != c.size {
			t.Errorf("LangDomain(%s) has %d elements, %v, want %d", c.kind, len(d.Up), ok, c.size)
		}
	}
	d, _ := impl.LangDomain("(> b b)")
	want := [][]int{ // the functions 000, 001, 002, 010, 011, 012, 020, 021, 022, 111 and 222
		identity(11), {1, 4, 7, 9}, {2, 5, 8, 10}, {3, 4, 5, 9}, {4, 9}, {5}, {6, 7, 8, 10}, {7}, {8, 10}, {9}, {10},
	}
	if !sameLists(d.Up, want) {
		t.Errorf("LangDomain of functions = %v", d.Up)
	}
}

// P78, P79: just 9 atoms, and 10 and more, alone and in a term.
func TestLangTypeAtoms(t *testing.T) {
	for _, c := range []struct {
		kind string
		want bool
	}{
		{"(> b (> b (> b (> b b))))", true},
		{"(> (> (> (> b b) b) b) b)", true},
		{"(* (* b b) (> b (* b b)))", true},
		{"(> b (> b (> b (> b (> b b)))))", false},
		{"(> (> (> (> (> b b) b) b) b) b)", false},
		{"(* (* (> b b) (> b b)) (* b b))", false},
		{"(> (> b b) (> b b) (> b b))", false}, // of 10 atoms
		{"(* (> b (> b b)) b b b)", false},     // of 9 atoms, but with four parts
		{"(> b b b)", false},
		{strings.Repeat("(> b ", 300) + "b" + strings.Repeat(")", 300), false},
		{strings.Repeat("(> ", 100000), false},
		{strings.Repeat("(", 100000), false},
		{strings.Repeat("b", 100000), false},
	} {
		wantDomain(t, senses{}, c.kind)
		for _, head := range []string{"bot ", "fix x "} {
			text := "(" + head + c.kind + ")"
			if head == "fix x " {
				text = "(fix x " + c.kind + " x)"
			}
			kind, ok := impl.LangType(text)
			if c.want {
				wantText(t, text, kind, ok, c.kind, true)
			} else {
				wantText(t, text, kind, ok, "", false)
			}
		}
		inner, ok := impl.LangType("(app (lam x b tt) (app (lam y b ff) (if tt tt (fst (pair tt (bot " + c.kind + "))))))")
		if fits := c.want && atomsOf(c.kind) <= 7; fits {
			wantText(t, c.kind+" within", inner, ok, "b", true)
		} else {
			wantText(t, c.kind+" within", inner, ok, "", false)
		}
	}
}

// P78, P79, P86: all texts of at most seven bytes of those that stand in types, as types.
func TestLangDomainOfShortTexts(t *testing.T) {
	texts, some := []string{""}, 0
	for range 8 {
		var longer []string
		for _, s := range texts {
			want := isType(s)
			if d, ok := impl.LangDomain(s); ok != want || ok && len(d.Up) < 3 {
				t.Errorf("LangDomain(%q) has %d elements, %v", s, len(d.Up), ok)
			}
			if want {
				some++
			}
			for _, c := range "b>*() " {
				longer = append(longer, s+string(c))
			}
		}
		texts = longer
	}
	if some != 3 { // b, and functions and pairs of it
		t.Errorf("%d types of at most seven bytes", some)
	}
}

// P78, P86: types, and what they become when one byte is left out, changed or added.
func TestLangDomainOfChangedTexts(t *testing.T) {
	s, some, none := senses{}, 0, 0
	for i, kind := range allTypes() {
		if i > 12 && i%9 > 0 {
			continue
		}
		for _, text := range changedTexts(kind, []string{"", "b", ">", "*", "(", ")", " ", "  ", "\t", "\n", "\x00", "B", "x", "+", "l", "\xff", "(> b b)", "→"}) {
			if wantDomain(t, s, text) {
				some++
			} else {
				none++
			}
			if !isType(text) {
				k, ok := impl.LangElement(text, 0, 0)
				wantNoIndex(t, "LangElement of "+text, k, ok)
			}
		}
	}
	if some < 200 || none < 5000 {
		t.Errorf("%d known types, %d other texts", some, none)
	}
}

// changedTexts returns what a text becomes when at one place something is put in, or put for one byte.
func changedTexts(text string, pieces []string) []string {
	var all []string
	for at := range len(text) + 1 {
		for _, piece := range pieces {
			all = append(all, text[:at]+piece+text[at:])
			if at < len(text) {
				all = append(all, text[:at]+piece+text[at+1:])
			}
		}
	}
	return all
}

// P86: against the definition, for all functions of all known types.
func TestLangElement(t *testing.T) {
	s, functions := senses{}, 0
	for _, kind := range knownKinds() {
		sign, from, _ := halves(kind)
		if sign != ">" {
			k, ok := impl.LangElement(kind, 0, 0)
			wantNoIndex(t, "LangElement of "+kind, k, ok)
			continue
		}
		functions++
		for k, list := range s.of(kind).funs {
			for a := range s.of(from).order {
				got, ok := impl.LangElement(kind, k, a)
				wantIndex(t, fmt.Sprintf("LangElement(%s, %d, %d)", kind, k, a), got, ok, list[a])
			}
		}
	}
	if functions != 4 {
		t.Errorf("%d types of functions", functions)
	}
}

// P86: the next element of the type, the first one behind the last, has another element for some of the first 40.
func TestLangElementOfNext(t *testing.T) {
	for _, kind := range knownKinds() {
		sign, from, _ := halves(kind)
		d, _ := impl.LangDomain(kind)
		e, _ := impl.LangDomain(from)
		for k := 0; k < len(d.Up) && sign == ">"; k += 1 + len(d.Up)/60 {
			differ := false
			for a := range min(40, len(e.Up)) {
				one, ok := impl.LangElement(kind, k, a)
				next, fine := impl.LangElement(kind, (k+1)%len(d.Up), a)
				if !ok || !fine || one < 0 || next < 0 {
					t.Errorf("LangElement(%s, %d, %d) = %d, %d", kind, k, a, one, next)
				}
				differ = differ || one != next
			}
			if !differ {
				t.Errorf("%s: %d and the next one have the same", kind, k)
			}
		}
	}
}

// P86: elements of functions from and to functions and products, by terms that are applied.
func TestLangElementIsApplied(t *testing.T) {
	for _, c := range []struct {
		kind     string
		function string
		argument string
	}{
		{"(> b b)", "(lam x b (if x ff tt))", "tt"},
		{"(> b (> b b))", "(lam x b (lam y b (if x y tt)))", "ff"},
		{"(> (* b b) b)", "(lam p (* b b) (por (fst p) (snd p)))", "(pair (bot b) tt)"},
		{"(> b (* b b))", "(lam x b (pair x (if x ff tt)))", "tt"},
	} {
		k, ok := impl.LangMean(c.function)
		a, fine := impl.LangMean(c.argument)
		want, good := impl.LangMean("(app " + c.function + " " + c.argument + ")")
		if kind, _ := impl.LangType(c.function); !ok || !fine || !good || kind != c.kind {
			t.Errorf("%s: %v, %v, %v", c.function, ok, fine, good)
		}
		got, ok := impl.LangElement(c.kind, k, a)
		wantIndex(t, c.function, got, ok, want)
	}
	for _, kind := range []string{"(> (> b b) b)", "(> (> b b) (> b b))", "(> (* b b) (* b b))", "(> (* b (> b b)) b)"} {
		k, ok := impl.LangElement(kind, 0, 0)
		wantNoIndex(t, "LangElement of "+kind+", not known", k, ok)
	}
}

// P86: types that are no functions or not known, texts that are no type, and numbers that are no elements.
func TestLangElementOfOthers(t *testing.T) {
	kinds := knownKinds()
	for _, kind := range append(allTypes(), noTypes()...) {
		sign, _, _ := halves(kind)
		known := slices.Contains(kinds, kind)
		for _, k := range []int{-1, 0, 1, 2} {
			if got, ok := impl.LangElement(kind, k, 0); k < 0 || !known || sign != ">" {
				wantNoIndex(t, fmt.Sprint("LangElement of ", kind), got, ok)
			}
		}
	}
	for _, kind := range []string{"(> b b)", "(> b (> b b))", "(> (* b b) b)", "(> b (* b b))"} {
		d, _ := impl.LangDomain(kind)
		_, from, _ := halves(kind)
		e, _ := impl.LangDomain(from)
		for _, k := range outside(len(d.Up) - 1) {
			for _, a := range []int{-1, len(e.Up), 256, math.MinInt, math.MaxInt} {
				for _, c := range [][2]int{{k, 0}, {0, a}, {k, a}, {k, len(e.Up) - 1}, {len(d.Up) - 1, a}} {
					if c[0] >= 0 && c[0] < len(d.Up) && c[1] >= 0 && c[1] < len(e.Up) {
						continue
					}
					got, ok := impl.LangElement(kind, c[0], c[1])
					wantNoIndex(t, fmt.Sprint("LangElement of ", kind, c), got, ok)
				}
			}
		}
		if _, ok := impl.LangElement(kind, len(d.Up)-1, len(e.Up)-1); !ok {
			t.Errorf("LangElement of the last elements of %s", kind)
		}
	}
}

// noTypes returns texts that are no type, by what is wrong with them.
func noTypes() []string {
	return []string{
		"", " ", "  ", "x", "B", "bb", "b ", " b", "b\n", "b b", "(b)", "()", "(", ")", "( )", ">", "*", "tt", "u", "l", "\x00", "\xff", "1", "-1",
		"(> b)", "(> b )", "(> b b", "(> b b))", "> b b", "> b b)", "(>b b)", "(> bb)", "(>  b b)", "(> b  b)", "( > b b)", "(> b b )", " (> b b)", "(> b b) ", "(> b b b)",
		"(b > b)", "(b b >)", "(b b b)", "(b b)", "(> x b)", "(> b x)", "(> b tt)", "(> (b) b)", "(> b (b))", "(> () b)", "(>> b b)", "(-> b b)", "(→ b b)", "(+ b b)", "(l b)", "(u b b)",
		"(*b b)", "(* b)", "(* b b", "(*  b b)", "(* b  b)", "(* b b )", "(* b b b)", "(x b b)", "(** b b)", "(× b b)", "(*\tb b)", "(* b\nb)", "[> b b]", "(> b b]", "(> [b] b)",
		"(> (> b b) b", "(> (> b b b)", "(> (> b) b b)", "(> b b)(> b b)", "(> b b) (> b b)", "(> (> b b)b)", "(>(> b b) b)", "(> b(> b b))", "(bot b)", "(lam x b x)",
		"(> b (> b (> b (> b (> b b)))))", "(* (* (* b b) (* b b)) (* b b))",
	}
}

// P78, P86: texts that are no type, among them ones that would lead very deep.
func TestLangDomainOfOtherTexts(t *testing.T) {
	deep := strings.Repeat("(> ", 1<<24)
	d, ok := impl.LangDomain(deep)
	wantNoOrder(t, "LangDomain of a deep text", d, ok)
	k, ok := impl.LangElement(deep, 0, 0)
	wantNoIndex(t, "LangElement of a deep text", k, ok)
	for _, text := range noTypes() {
		if isType(text) {
			t.Errorf("%q is a type", text)
		}
		d, ok = impl.LangDomain(text)
		wantNoOrder(t, fmt.Sprintf("LangDomain(%q)", text), d, ok)
	}
}

// P78: no result shares memory with another one, and no state is kept.
func TestLangDomainMemory(t *testing.T) {
	for _, kind := range knownKinds() {
		d, _ := impl.LangDomain(kind)
		e, _ := impl.LangDomain(kind)
		wantSeparate(t, kind, slices.Concat(d.Up, e.Up)...)
		wantNothingKept(t, kind, func() [][]int {
			d, _ := impl.LangDomain(kind)
			k, _ := impl.LangMean("(bot " + kind + ")")
			return append(d.Up, []int{k})
		})
	}
}
