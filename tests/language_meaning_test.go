package tests

import (
	"fmt"
	"strings"
	"testing"

	"loop.example/scottdomains/impl"
)

// wantMeaning fails if LangMean of a text is not what the document's sentences tell, or it means nothing and LangMean tells something.
func wantMeaning(t *testing.T, s senses, text string) bool {
	t.Helper()
	want, _, there := s.meanText(text)
	got, ok := impl.LangMean(text)
	if there {
		wantIndex(t, "LangMean of "+text, got, ok, want)
	} else {
		wantNoIndex(t, "LangMean of "+text, got, ok)
	}
	return there
}

// P80, P83: against the definition, for all terms of at most six atoms that have a type, and larger ones, some that mean nothing among them.
func TestLangMean(t *testing.T) {
	s, some, none := senses{}, 0, 0
	for _, text := range append(smallTerms(6), someTerms(3000)...) {
		if kind, _ := impl.LangType(text); kind == "" {
			continue
		}
		if wantMeaning(t, s, text) {
			some++
		} else {
			none++
		}
	}
	if some < 2000 || none < 200 {
		t.Errorf("%d terms mean something, %d do not", some, none)
	}
}

// P80: against the definition, for functions of all known types whose bodies use the names of all arguments.
func TestLangMeanOfFunctions(t *testing.T) {
	s := senses{}
	for _, body := range []string{"x", "y", "(por x y)", "(if x y ff)", "(if y x (bot b))", "(if x (if y tt (bot b)) (if y ff tt))", "(por (if x tt (bot b)) y)", "(fix z b (por (if x y z) y))", "(app (lam x b (por x y)) y)", "(app (lam y b x) (if y tt x))"} {
		pair := strings.NewReplacer("x", "(fst p)", "y", "(snd p)", "lam x", "lam x", "lam y", "lam y").Replace(body)
		for _, text := range []string{
			"(lam x b (lam y b " + body + "))", "(lam y b (lam x b " + body + "))", "(fix f (> b (> b b)) (lam x b (lam y b (if " + body + " (app (app f y) x) " + body + "))))",
			"(lam x b (app (lam y b (pair x " + body + ")) ff))", "(pair tt (lam x b (app (lam y b " + body + ") x)))", "(lam y b (app (lam x b " + body + ") y))", "(lam x b (pair " + strings.ReplaceAll(body, "y", "x") + " x))",
		} {
			if !wantMeaning(t, s, text) {
				t.Errorf("%s means nothing", text)
			}
		}
		if !strings.Contains(body, "lam") {
			wantMeaning(t, s, "(lam p (* b b) "+pair+")")
		}
	}
}

// P80, P83: what is known by hand.
func TestLangMeanOfNamedTerms(t *testing.T) {
	s := senses{}
	for _, c := range namedTerms() {
		if !wantMeaning(t, s, c.text) {
			t.Errorf("%s means nothing", c.text)
		}
		if got, ok := impl.LangMean(c.text); c.element >= 0 {
			wantIndex(t, "LangMean of "+c.text, got, ok, c.element)
		}
	}
}

// P80: fixed points of functions, of functions to functions, of functions of pairs, of functions to pairs, and of pairs with functions: each one against the definition.
func TestLangMeanOfFixedFunctions(t *testing.T) {
	s := senses{}
	for kind, parts := range map[string][2]string{
		"(> b b)":             {"(lam x b %)", "(app f %)"},
		"(> b (> b b))":       {"(lam x b (lam y b %))", "(app (app f %) y)"},
		"(> (* b b) b)":       {"(lam p (* b b) (app (lam x b %) (fst p)))", "(app f (pair % (snd p)))"},
		"(> b (* b b))":       {"(lam x b (pair % x))", "(fst (app f %))"},
		"(* b (> b b))":       {"(pair tt (lam x b %))", "(app (snd f) %)"},
		"(* (> b b) b)":       {"(pair (lam x b %) (app (fst f) (snd f)))", "(app (fst f) %)"},
		"(* (> b b) (> b b))": {"(pair (lam x b %) (fst f))", "(app (snd f) %)"},
	} {
		for _, body := range []string{
			"@", "(if x tt @)", "(if x @ ff)", "(if @ tt ff)", "(por x @)", "(por @ (if x tt (bot b)))", "(if x (if @ ff tt) tt)", "(por (por x @) @)", "(fix z b (por z @))", "(app (lam z b (if z @ x)) x)",
		} {
			for _, argument := range []string{"x", "tt", "(bot b)", "(if x ff tt)", "(por x tt)"} {
				text := wrapped(1, parts[0], strings.ReplaceAll(body, "@", wrapped(1, parts[1], argument)))
				text = "(fix f " + kind + " " + text + ")"
				if !wantMeaning(t, s, text) {
					t.Errorf("%s means nothing", text)
				}
				next, ok := impl.LangStep(text)
				if !ok || !impl.LangSame(text, next) {
					t.Errorf("%s does not mean the same as %s", text, next)
				}
			}
		}
	}
}

// climbing returns a term of b with the names x and y that is tt for both tt, and for less where what is called has tt for a little more.
func climbing(called func(first string, second string) string) string {
	body, value, none := "(bot b)", "tt", "(bot b)"
	for _, point := range [][2]string{{"tt", "tt"}, {"tt", "ff"}, {"ff", "tt"}, {"ff", "ff"}, {"tt", none}, {"ff", none}, {none, "tt"}, {none, "ff"}, {none, none}} {
		for i, name := range []string{"x", "y"} {
			switch point[i] {
			case "tt":
				value = "(if " + name + " " + value + " " + none + ")"
			case "ff":
				value = "(if " + name + " " + none + " " + value + ")"
			}
		}
		body = "(por " + body + " " + value + ")"
		value = called(point[0], point[1])
	}
	return body
}

// P80: fixed points of functions that are reached by nine changes, as many as there may be.
func TestLangMeanOfLongClimbs(t *testing.T) {
	one := climbing(func(first string, second string) string { return "(app (app f " + first + ") " + second + ")" })
	pairs := climbing(func(first string, second string) string { return "(app f (pair " + first + " " + second + "))" })
	for _, text := range []string{
		"(fix f (> b (> b b)) (lam x b (lam y b " + one + ")))",
		"(fix f (> (* b b) b) (lam p (* b b) (app (app (lam x b (lam y b " + pairs + ")) (fst p)) (snd p))))",
	} {
		wantMeaning(t, senses{}, text)
		got, ok := impl.LangMean(text)
		wantIndex(t, text, got, ok, 196) // the greatest one, that is always tt
	}
}

// P80: fixed points within others, of which one uses the name of the other, at each of both places, and both again.
func TestLangMeanOfFixWithinFix(t *testing.T) {
	s := senses{}
	for _, outer := range []string{"(fix f (> b b) (lam x b %))", "(fix f (> b b) (lam x b (if x % (app f tt))))", "(fix f (> b b) (lam x b (por x %)))", "(app (fix f (> b b) (lam x b (if % x (app f %)))) tt)", "(lam x b (app (lam f (> b b) %) (lam y b x)))"} {
		for _, inner := range []string{
			"(app (fix g (> b b) (lam y b (if y (app f x) (app g x)))) x)", "(app (fix g (> b b) (lam y b (por (app g y) (app f y)))) tt)", "(fix z b (if (app f z) x z))", "(fix z b (por (app f z) x))",
			"(app (fix f (> b b) (lam x b (if x ff (app f tt)))) x)", "(app (fix g (> b b) (lam x b (if (app f x) x (app g (app f ff))))) ff)", "(fst (fix p (* b b) (pair (app f (snd p)) (por x (fst p)))))",
			"(fix x b (app f x))", "(app (fix g (> b b) f) x)", "(app (fix g (> b b) (lam y b (if y tt (fix z b (por z (app g (app f x))))))) x)",
		} {
			ahead, behind, twice := strings.Cut(strings.Replace(outer, "%", "%", 1), "%")
			text := ahead + strings.ReplaceAll(behind, "%", inner)
			if twice {
				text = strings.ReplaceAll(outer, "%", inner)
			}
			wantMeaning(t, s, text)
		}
	}
}

// P84: fix of a name that is not used around a term means the same, also where the name stands bound in the term.
func TestLangMeanOfUnusedFix(t *testing.T) {
	count := 0
	for _, text := range someTerms(1200) {
		want, ok := impl.LangMean(text)
		kind, _ := impl.LangType(text)
		for _, name := range []string{"q", "x", "f1", "q999"} {
			around := "(fix " + name + " " + kind + " " + text + ")"
			got, fine := impl.LangMean(around)
			if ok {
				wantIndex(t, around, got, fine, want)
				count++
			} else {
				wantNoIndex(t, around, got, fine)
			}
		}
	}
	if count < 1000 {
		t.Errorf("%d terms", count)
	}
}

// P80: types that are known, and types of which the whole or a part is not, of parts of the term or in its text alone, where the part is used and where it is not.
func TestLangMeanOfTypesNotKnown(t *testing.T) {
	for text, want := range map[string]int{
		"(bot (> (> b b) b))":                                           -1,
		"(fst (pair tt (bot (> (> b b) b))))":                           -1,
		"(fst (pair tt (bot (> b (> b b)))))":                           -1, // the pair has too many elements
		"(fst (pair tt (bot (> b b))))":                                 2,
		"(if tt tt (app (bot (> (> b b) b)) (lam x b x)))":              -1,
		"(if tt tt (app (bot (> b (* b b))) tt))":                       -2, // has no type
		"(if tt tt (fst (app (bot (> b (* b b))) tt)))":                 2,
		"(app (lam f (> b b) tt) (lam x b x))":                          -1, // the function of functions is not known
		"(app (lam x b tt) (app (lam f (> b b) tt) (bot (> b b))))":     -1,
		"(lam x b (lam y b (lam z b tt)))":                              -1,
		"(app (lam x b (lam y b (lam z b tt))) tt)":                     -1,
		"(app (app (lam x b (lam y b tt)) tt) tt)":                      2,
		"(fix x (* b (* b (* b (* b b)))) x)":                           -1,
		"(fix x (* b (* b (* b b))) x)":                                 0,
		"(fst (snd (snd (bot (* b (* b (* b (* b b))))))))":             -1,
		"(fst (snd (snd (bot (* b (* b (* b b)))))))":                   0,
		"(fst (bot (* b (> (> b b) b))))":                               -1,
		"(app (bot (> b (* b (> b b)))) tt)":                            -1,
		"(lam p (* b (> b b)) tt)":                                      -1,
		"(lam p (* b b) (app (snd (pair p (lam x b x))) tt))":           4,
		"(app (lam p (* b b) (por (fst p) (snd p))) (pair tt (bot b)))": 2,
	} {
		kind, typed := impl.LangType(text)
		got, ok := impl.LangMean(text)
		if typed != (want > -2) {
			t.Errorf("%s has the type %q", text, kind)
		}
		if want < 0 {
			wantNoIndex(t, text, got, ok)
			if impl.LangSame(text, text) || impl.LangBelow(text, text) || impl.LangBelow("(bot "+kind+")", text) {
				t.Errorf("%s: LangSame or LangBelow", text)
			}
		} else if want == 4 {
			wantMeaning(t, senses{}, text)
		} else {
			wantIndex(t, text, got, ok, want)
		}
	}
}

// P80: terms that are large or deep, with fix within fix, functions applied within functions, and each form 200 times.
func TestLangMeanOfLargeTerms(t *testing.T) {
	named := func(form string, times int, within string, behind string) string {
		text := within
		for i := times - 1; i >= 0; i-- {
			text = wrapped(1, strings.ReplaceAll(form, "?", fmt.Sprint(i)), text)
		}
		return text + behind
	}
	sum := func(times int, last string) string {
		return named("(por x? %)", times, last, "")
	}
	for _, c := range []struct {
		name, text string
		want       int
	}{
		{"200 fix", wrapped(200, "(fix x b %)", "tt"), 2},
		{"200 fix of a name", wrapped(200, "(fix x b %)", "x"), 0},
		{"200 fix with names", named("(fix x? b %)", 200, "x199", ""), 0},
		{"100 fix with all names, tt", named("(fix x? b %)", 100, sum(100, "tt"), ""), 2},
		{"99 fix with all names, none", named("(fix x? b %)", 99, sum(99, "(bot b)"), ""), 0},
		{"66 fix of pairs", "(fst " + named("(fix p? (* b b) %)", 66, "(pair (por (fst p0) (snd p65)) (por tt (fst p33)))", "") + ")", 2},
		{"60 fix of functions", "(app " + named("(fix f? (> b b) (lam x? b (app % x?)))", 60, "(lam x b (if x ff tt))", "") + " ff)", 2},
		{"40 fix of functions with a name from without", "(app " + named("(fix f? (> b b) (lam x? b (if x? (app % x?) (app f? tt))))", 40, "(lam x b (if (app f0 x) x tt))", "") + " ff)", 0},
		{"66 functions applied", named("(app (lam x? b %) (por (bot b) tt))", 66, sum(66, "ff"), ""), 2},
		{"100 por", wrapped(199, "(por (bot b) %)", "tt"), 2},
		{"199 if", wrapped(199, "(if tt % ff)", "(por ff ff)"), 1},
		{"199 if of if", wrapped(199, "(if % tt ff)", "(bot b)"), 0},
		{"100 pairs", wrapped(100, "(fst (pair % tt))", "ff"), 1},
		{"60 functions chosen", wrapped(60, "(app (if tt (lam x b %) (bot (> b b))) ff)", "x"), 1},
		{"60 functions in pairs", wrapped(49, "(app (snd (pair tt (lam x b %))) tt)", "x"), 2},
	} {
		if !isTerm(c.text) {
			t.Errorf("%s: %d atoms, depth %d", c.name, atomsOf(c.text), depthOf(c.text))
		}
		got, ok := impl.LangMean(c.text)
		wantIndex(t, c.name, got, ok, c.want)
	}
}

// P80: LangBelow holds for bot of the type and the term, if this means something, and the element is one of the domain.
func TestLangMeanIsAboveBot(t *testing.T) {
	for _, text := range someTerms(1500) {
		kind, ok := impl.LangType(text)
		element, fine := impl.LangMean(text)
		if below := impl.LangBelow("(bot "+kind+")", text); !ok || below != fine {
			t.Errorf("%s: LangBelow of bot = %v, but it means something: %v", text, below, fine)
		}
		d, known := impl.LangDomain(kind)
		if fine && (!known || element < 0 || element >= len(d.Up)) {
			t.Errorf("%s means %d of %d", text, element, len(d.Up))
		}
	}
}

// P85, P88: LangSame and LangBelow against the definition, for terms of one type and of others.
func TestLangSameAndLangBelow(t *testing.T) {
	s := senses{}
	same, below, others := 0, 0, 0
	texts := someTerms(240)
	byKind := map[string][]string{}
	for _, text := range texts {
		kind, _ := impl.LangType(text)
		byKind[kind] = append(byKind[kind], text)
	}
	for i, a := range texts {
		first, left, ok := s.meanText(a)
		kind, _ := impl.LangType(a)
		alikes := byKind[kind]
		for _, b := range []string{a, texts[(i*7+1)%len(texts)], alikes[i*3%len(alikes)], alikes[i*11%len(alikes)], "(bot " + kind + ")"} {
			second, right, fine := s.meanText(b)
			alike := ok && fine && left == right
			isSame := alike && first == second
			isBelow := alike && s.of(left).order[first][second]
			if impl.LangSame(a, b) != isSame || impl.LangSame(b, a) != isSame || impl.LangBelow(a, b) != isBelow {
				t.Errorf("%s and %s: LangSame = %v, LangBelow = %v, want %v, %v", a, b, impl.LangSame(a, b), impl.LangBelow(a, b), isSame, isBelow)
			}
			if isSame && (!impl.LangBelow(a, b) || !impl.LangBelow(b, a)) {
				t.Errorf("%s and %s are the same, but not below each other", a, b)
			}
			switch {
			case isSame:
				same++
			case isBelow:
				below++
			default:
				others++
			}
		}
	}
	if same < 300 || below < 100 || others < 200 {
		t.Errorf("%d same, %d below, %d others", same, below, others)
	}
}

// P85: if LangSame holds, it holds for pairs with tt, if these mean something.
func TestLangSameOfPairs(t *testing.T) {
	count := 0
	for _, text := range someTerms(600) {
		next, ok := impl.LangStep(text)
		if !ok || !impl.LangSame(text, next) {
			continue
		}
		for _, form := range []string{"(pair % tt)", "(pair tt %)"} {
			a, b := wrapped(1, form, text), wrapped(1, form, next)
			_, fits := impl.LangMean(a)
			_, fine := impl.LangMean(b)
			if impl.LangSame(a, b) != (fits && fine) {
				t.Errorf("%s and %s: LangSame = %v", a, b, !fits)
			}
			if fits && fine {
				count++
			}
		}
	}
	if count < 200 {
		t.Errorf("%d pairs", count)
	}
}

// P85, P88: terms that are known.
func TestLangSameOfNamedTerms(t *testing.T) {
	for _, c := range []struct {
		a, b        string
		same, below bool
	}{
		{"tt", "tt", true, true},
		{"tt", "ff", false, false},
		{"ff", "tt", false, false},
		{"(bot b)", "tt", false, true},
		{"tt", "(bot b)", false, false},
		{"(fix x b x)", "(bot b)", true, true},
		{"(lam x b x)", "(lam y b y)", true, true},
		{"(lam x b x)", "(lam x b (if x tt ff))", true, true},
		{"(lam x b (if x tt tt))", "(lam x b tt)", false, true},
		{"(lam x b tt)", "(lam x b (if x tt tt))", false, false},
		{"(lam x b (lam y b (por x y)))", "(lam x b (lam y b (por y x)))", true, true},
		{"(lam x b (lam y b (if x tt y)))", "(lam x b (lam y b (por x y)))", false, true},
		{"(lam x b (lam y b (if y tt x)))", "(lam x b (lam y b (por x y)))", false, true},
		{"(lam x b (lam y b (if x tt y)))", "(lam x b (lam y b (if y tt x)))", false, false},
		{"(pair tt (bot b))", "(pair tt ff)", false, true},
		{"(pair tt ff)", "(pair (bot b) ff)", false, false},
		{"(bot (> b b))", "(bot (* b b))", false, false}, // the same number of two types
		{"(bot (> b b))", "(bot b)", false, false},
		{"(bot (* b b))", "(bot (* b (* b b)))", false, false},
		{"(bot (> b (> b b)))", "(bot (> (* b b) b))", false, false},
		{"(bot (> (> b b) b))", "(bot (> (> b b) b))", false, false}, // not known
		{"(lam x b (fix y b (por x y)))", "(lam x b (por x (bot b)))", true, true},
	} {
		if same, below := impl.LangSame(c.a, c.b), impl.LangBelow(c.a, c.b); same != c.same || below != c.below {
			t.Errorf("%s and %s: LangSame = %v, LangBelow = %v", c.a, c.b, same, below)
		}
	}
}

// P88: if LangBelow holds for terms of b, LangRun of the first one, if it succeeds, is the value that the second one means.
func TestLangBelowIsRun(t *testing.T) {
	count := 0
	var texts []string
	for _, text := range someTerms(3000) {
		if kind, _ := impl.LangType(text); kind == "b" {
			texts = append(texts, text)
		}
	}
	for i, a := range texts {
		value, _, ok := impl.LangRun(a, impl.FuelMax)
		for k := range 3 {
			b := texts[(i*(k+2)+k)%len(texts)]
			if !ok || !impl.LangBelow(a, b) {
				continue
			}
			count++
			if element, _ := impl.LangMean(b); value != []string{"", "ff", "tt"}[element] {
				t.Errorf("%s comes to %s, but %s means %d", a, value, b, element)
			}
		}
	}
	if count < 150 {
		t.Errorf("%d pairs of terms", count)
	}
}
