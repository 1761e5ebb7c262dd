package tests

import (
	"fmt"
	"slices"
	"strings"
	"testing"

	"loop.example/scottdomains/impl"
)

// wantStep fails if LangStep of a text that has a type is not what the document's sentences tell.
func wantStep(t *testing.T, text string) (string, bool) {
	t.Helper()
	want, there := stepText(text)
	if !there {
		want = ""
	}
	got, ok := impl.LangStep(text)
	wantText(t, fmt.Sprintf("LangStep(%.200q)", text), got, ok, want, there)
	return got, ok
}

// wantRun fails if LangRun of a text that has a type is not what the document's sentences tell.
func wantRun(t *testing.T, text string, fuel int) bool {
	t.Helper()
	value, steps, there := runText(text, fuel)
	got, taken, ok := impl.LangRun(text, fuel)
	if ok != there || got != value || taken != steps {
		t.Errorf("LangRun(%.200q, %d) = %.200q, %d, %v, want %.200q, %d, %v", text, fuel, got, taken, ok, value, steps, there)
	}
	return there
}

// P81: against the definition, for all terms of at most six atoms that have a type, and for larger ones, step by step.
func TestLangStep(t *testing.T) {
	steps, values := 0, 0
	for _, text := range append(smallTerms(6), someTerms(3000)...) {
		kind, ok := impl.LangType(text)
		for count := 0; ok && count < 12; count++ {
			text, ok = wantStep(t, text)
			if got, fine := impl.LangType(text); ok && (!fine || got != kind) {
				t.Errorf("%s has the type %q, not %q", text, got, kind)
			}
			if ok {
				steps++
			} else {
				values++
			}
		}
	}
	if steps < 5000 || values < 1000 {
		t.Errorf("%d steps, %d without one", steps, values)
	}
}

// P81: the term behind a step means the same, if both mean something.
func TestLangStepMeansTheSame(t *testing.T) {
	count := 0
	for _, text := range someTerms(1000) {
		want, ok := impl.LangMean(text)
		for range 8 {
			next, fine := impl.LangStep(text)
			if !fine || next == text {
				break
			}
			got, good := impl.LangMean(next)
			if ok && good {
				count++
				wantIndex(t, next+" behind a step", got, good, want)
				if !impl.LangSame(text, next) {
					t.Errorf("%s and %s are not the same", text, next)
				}
			}
			text, want, ok = next, got, good
		}
	}
	if count < 1000 {
		t.Errorf("%d steps", count)
	}
}

// P81: steps that are known, each rule of the document, and names bound again within.
func TestLangStepOfNamedTerms(t *testing.T) {
	for _, c := range [][2]string{
		{"(app (lam x b x) tt)", "tt"},
		{"(app (lam x b tt) (bot b))", "tt"}, // the argument takes no step
		{"(app (lam x b (por x x)) (if tt ff tt))", "(por (if tt ff tt) (if tt ff tt))"},
		{"(app (lam x b (lam y b x)) (bot b))", "(lam y b (bot b))"},
		{"(app (lam x b (lam x b x)) tt)", "(lam x b x)"},
		{"(app (lam x b (lam y b (pair x y))) ff)", "(lam y b (pair ff y))"},
		{"(app (lam x b (pair x (lam x b x))) ff)", "(pair ff (lam x b x))"},
		{"(app (lam x b (pair (lam x b x) x)) ff)", "(pair (lam x b x) ff)"},
		{"(app (lam x b (fix x b x)) ff)", "(fix x b x)"},
		{"(app (lam x b (fix y b (por x y))) ff)", "(fix y b (por ff y))"},
		{"(app (lam x b (app (lam x b x) x)) ff)", "(app (lam x b x) ff)"},
		{"(app (lam x b (app (lam y b x) x)) (app (lam x b x) tt))", "(app (lam y b (app (lam x b x) tt)) (app (lam x b x) tt))"},
		{"(app (lam f (> b b) (lam x b (app f x))) (lam y b y))", "(lam x b (app (lam y b y) x))"},
		{"(app (lam f (> b b) (lam x b (app f x))) (lam x b x))", "(lam x b (app (lam x b x) x))"},
		{"(app (lam b b (lam c b (if b c (bot b)))) tt)", "(lam c b (if tt c (bot b)))"}, // the type is not a name
		{"(app (lam b b (lam x b b)) tt)", "(lam x b tt)"},
		{"(app (lam x1 b (lam x b (por x x1))) tt)", "(lam x b (por x tt))"},
		{"(app (lam x b (if x x (snd (fst (pair (pair x x) x))))) ff)", "(if ff ff (snd (fst (pair (pair ff ff) ff))))"},
		{"(app (if tt (lam x b x) (lam x b tt)) ff)", "(app (lam x b x) ff)"},
		{"(app (fst (pair (lam x b x) tt)) ff)", "(app (lam x b x) ff)"},
		{"(app (app (lam x b (lam y b x)) tt) ff)", "(app (lam y b tt) ff)"},
		{"(app (bot (> b b)) (if tt tt tt))", "(app (bot (> b b)) (if tt tt tt))"},
		{"(app (fix f (> b b) f) tt)", "(app (fix f (> b b) f) tt)"},
		{"(app (fix f (> b b) (lam x b (app f x))) tt)", "(app (lam x b (app (fix f (> b b) (lam x b (app f x))) x)) tt)"},
		{"(fst (pair tt ff))", "tt"},
		{"(snd (pair tt ff))", "ff"},
		{"(fst (pair (if tt tt tt) (bot b)))", "(if tt tt tt)"}, // no step within a pair
		{"(snd (pair (bot b) (if ff tt tt)))", "(if ff tt tt)"},
		{"(fst (if tt (pair tt ff) (pair ff ff)))", "(fst (pair tt ff))"},
		{"(snd (fst (pair (pair tt ff) tt)))", "(snd (pair tt ff))"},
		{"(fst (bot (* b b)))", "(fst (bot (* b b)))"},
		{"(snd (fix p (* b b) (pair tt (fst p))))", "(snd (pair tt (fst (fix p (* b b) (pair tt (fst p))))))"},
		{"(if tt (if tt ff ff) (bot b))", "(if tt ff ff)"},
		{"(if ff (bot b) (if tt ff ff))", "(if tt ff ff)"},
		{"(if (if tt ff tt) (if tt tt tt) (if ff ff ff))", "(if ff (if tt tt tt) (if ff ff ff))"},
		{"(if (bot b) tt tt)", "(if (bot b) tt tt)"},
		{"(if (por tt ff) tt ff)", "(if tt tt ff)"},
		{"(if tt (lam x b x) (lam x b tt))", "(lam x b x)"},
		{"(fix x b x)", "(fix x b x)"},
		{"(fix x b tt)", "tt"},
		{"(fix x b (por x tt))", "(por (fix x b (por x tt)) tt)"},
		{"(fix x b (fix x b (por x tt)))", "(fix x b (por x tt))"},
		{"(fix x b (fix y b (por x y)))", "(fix y b (por (fix x b (fix y b (por x y))) y))"},
		{"(fix x b (app (lam x b x) x))", "(app (lam x b x) (fix x b (app (lam x b x) x)))"},
		{"(fix f (> b b) (lam x b (app f x)))", "(lam x b (app (fix f (> b b) (lam x b (app f x))) x))"},
		{"(fix f (> b b) (lam f b f))", "(lam f b f)"},
		{"(por tt (bot b))", "tt"},
		{"(por (bot b) tt)", "tt"},
		{"(por tt tt)", "tt"},
		{"(por tt ff)", "tt"},
		{"(por ff tt)", "tt"},
		{"(por ff ff)", "ff"},
		{"(por tt (if tt ff ff))", "tt"},
		{"(por (if tt ff ff) tt)", "tt"},
		{"(por ff (if tt ff tt))", "(por ff ff)"}, // one takes a step
		{"(por (if tt ff tt) ff)", "(por ff ff)"},
		{"(por (if tt ff tt) (if ff ff tt))", "(por ff tt)"}, // both do
		{"(por (if (if tt tt ff) ff tt) (fst (pair tt tt)))", "(por (if tt ff tt) tt)"},
		{"(por (por ff ff) (por ff (por ff ff)))", "(por ff (por ff ff))"},
		{"(por (por (if tt ff ff) (if ff ff ff)) (por ff (if tt ff ff)))", "(por (por ff ff) (por ff ff))"},
		{"(por (bot b) (bot b))", "(por (bot b) (bot b))"},
		{"(por (bot b) ff)", "(por (bot b) ff)"},
		{"(por ff (bot b))", "(por ff (bot b))"},
		{"(por (bot b) (if tt tt ff))", "(por (bot b) tt)"},
		{"(bot b)", "(bot b)"},
		{"(bot (> b b))", "(bot (> b b))"},
		{"(bot (* (> b b) b))", "(bot (* (> b b) b))"},
	} {
		got, ok := wantStep(t, c[0])
		wantText(t, "LangStep of "+c[0], got, ok, c[1], true)
	}
}

// P81, P82: a value takes no step, whatever its parts are.
func TestLangStepOfValues(t *testing.T) {
	for _, text := range []string{
		"tt", "ff", "(lam x b x)", "(lam x b (if tt x ff))", "(lam x b (bot b))", "(lam x (> b b) (app (lam y b y) tt))", "(pair tt ff)", "(pair (if tt tt ff) (bot b))",
		"(pair (app (lam x b x) tt) (fix x b x))", "(pair (pair tt tt) (lam x b x))", "(lam x b (lam y b (por tt tt)))",
	} {
		got, ok := impl.LangStep(text)
		wantText(t, "LangStep of "+text, got, ok, "", false)
		for _, fuel := range []int{0, 1, impl.FuelMax} {
			value, steps, ok := impl.LangRun(text, fuel)
			if !ok || value != text || steps != 0 {
				t.Errorf("LangRun of %s with %d = %q, %d, %v", text, fuel, value, steps, ok)
			}
		}
	}
}

// P82: against the definition, with no fuel, little, and all.
func TestLangRun(t *testing.T) {
	some, none := 0, 0
	for i, text := range append(smallTerms(5), someTerms(2000)...) {
		if _, ok := impl.LangType(text); !ok {
			continue
		}
		for _, fuel := range []int{0, 1, 2, 3, 7, 40}[i%2:] {
			if wantRun(t, text, fuel) {
				some++
			} else {
				none++
			}
		}
	}
	if some < 2000 || none < 500 {
		t.Errorf("%d runs, %d without an end", some, none)
	}
}

// P82: a value of the type, that takes no step and means the same; with one step less it fails, and with more it is the same.
func TestLangRunToValues(t *testing.T) {
	count := 0
	for _, text := range someTerms(1200) {
		kind, _ := impl.LangType(text)
		value, steps, ok := impl.LangRun(text, impl.FuelMax)
		if !ok {
			continue
		}
		if got, fine := impl.LangType(value); !fine || got != kind || !phraseOf(value).isValue() {
			t.Errorf("%s comes to %s of type %q", text, value, got)
		}
		next, fine := impl.LangStep(value)
		wantText(t, "a step of "+value, next, fine, "", false)
		want, there := impl.LangMean(text)
		if got, fine := impl.LangMean(value); there && fine && got != want {
			t.Errorf("%s means %d, but comes to %s", text, want, value)
		}
		if steps > 0 {
			count++
			wantNoRun(t, text, text, steps-1)
		}
		for _, fuel := range []int{steps, steps + 1, 500} {
			again, taken, fine := impl.LangRun(text, fuel)
			if again != value || taken != steps || !fine {
				t.Errorf("LangRun(%s, %d) = %s, %d, %v", text, fuel, again, taken, fine)
			}
		}
	}
	if count < 250 {
		t.Errorf("%d runs", count)
	}
}

// P83: of terms of b, with all the fuel, a run comes to ff for 1 and to tt for 2, and does not end for 0.
func TestLangRunTellsTheMeaning(t *testing.T) {
	ends := [3]int{}
	for _, text := range append(smallTerms(5), someTerms(2000)...) {
		kind, _ := impl.LangType(text)
		element, ok := impl.LangMean(text)
		if kind != "b" || !ok {
			continue
		}
		value, _, fine := impl.LangRun(text, impl.FuelMax)
		if fine && value != []string{"", "ff", "tt"}[element] {
			t.Errorf("%s means %d, but comes to %q", text, element, value)
		}
		if fine == (element > 0) {
			ends[element]++
		}
	}
	for element, count := range ends {
		if count < 50 {
			t.Errorf("%d terms mean %d", count, element)
		}
	}
}

// P82, P83: runs that are known, with fix of functions, and with both parts of por that take steps at the same time.
func TestLangRunOfNamedTerms(t *testing.T) {
	fix := "(fix f (> b b) (lam x b (if x tt (app f (if x ff tt)))))"
	for _, c := range []struct {
		text, value string
		steps       int
	}{
		{"tt", "tt", 0},
		{"(app (lam x b (if x ff tt)) tt)", "ff", 2},
		{"(por tt (bot b))", "tt", 1},
		{"(por (bot b) (por (bot b) (por (bot b) tt)))", "tt", 3},
		{"(por (if tt ff tt) (if tt (if tt ff tt) tt))", "ff", 3},
		{"(por (fix x b x) (app (lam x b x) (por ff tt)))", "tt", 3},
		{"(app " + fix + " tt)", "tt", 3},
		{"(app " + fix + " ff)", "tt", 7},
		{"(app (fix f (> b b) (lam x b (por x (app f tt)))) ff)", "tt", 6},
		{"(fix p (* b b) (pair (snd p) tt))", "(pair (snd (fix p (* b b) (pair (snd p) tt))) tt)", 1},
		{"(fst (fix p (* b b) (pair (snd p) tt)))", "tt", 4},
		{"(app (app (fix f (> b (> b b)) (lam x b (lam y b (if x y (app (app f tt) x))))) ff) tt)", "ff", 8},
		{"(fix f (> b b) (lam x b (app f x)))", "(lam x b (app (fix f (> b b) (lam x b (app f x))) x))", 1},
		{wrapped(199, "(if tt % ff)", "(if tt ff tt)"), "ff", 200},
		{wrapped(199, "(if % ff tt)", "(if tt ff tt)"), "tt", 200},
		{wrapped(100, "(fst (pair % tt))", "(bot (* b b))"), "", 0},
	} {
		got, steps, ok := impl.LangRun(c.text, impl.FuelMax)
		if ok != (c.value != "") || got != c.value || steps != c.steps {
			t.Errorf("LangRun(%.100q) = %q, %d, %v, want %q, %d", c.text, got, steps, ok, c.value, c.steps)
		}
		if c.steps > 0 {
			wantNoRun(t, c.text, c.text, c.steps-1)
			got, steps, ok = impl.LangRun(c.text, c.steps)
			wantText(t, c.text, got, ok && steps == c.steps, c.value, true)
		}
	}
}

// P82: terms without an end, with all the fuel.
func TestLangRunWithoutEnd(t *testing.T) {
	for _, text := range []string{
		"(bot b)", "(bot (> b b))", "(bot (* b b))", "(fix x b x)", "(if (bot b) tt tt)", "(por (bot b) ff)", "(por ff (fix x b x))", "(por (bot b) (bot b))", "(fst (bot (* b b)))", "(app (bot (> b b)) tt)",
		"(app (fix f (> b b) (lam x b (app f x))) tt)", "(app (fix f (> b b) (lam x b (app f (if x ff tt)))) tt)", "(fix x b (por x x))", "(snd (fix p (* b b) (pair (snd p) (fst p))))", "(fix x b (if x tt tt))",
	} {
		for _, fuel := range []int{0, 1, 10, impl.FuelMax - 1, impl.FuelMax} {
			wantNoRun(t, text, text, fuel)
		}
		if element, ok := impl.LangMean(text); !ok || element != 0 {
			t.Errorf("%s means %d, %v", text, element, ok)
		}
	}
}

// counter returns a term of b that comes to tt in 3 steps for each of some tt, and one step more.
func counter(count int) string {
	return wrapped(count, "(app (app (lam x b (lam y b (if x y ff))) tt) %)", "(if tt tt ff)")
}

// P82: just as many steps as the fuel, up to FuelMax, and one step less.
func TestLangRunFuel(t *testing.T) {
	for count := 0; count < 93; count += 4 {
		value, steps, ok := impl.LangRun(counter(count), impl.FuelMax)
		if !ok || value != "tt" || steps != 3*count+1 {
			t.Errorf("LangRun of %d = %q, %d, %v", count, value, steps, ok)
		}
		wantNoRun(t, "one less", counter(count), steps-1)
		value, steps, ok = impl.LangRun(counter(count), steps)
		wantText(t, "just enough", value, ok && steps == 3*count+1, "tt", true)
	}
	longest, tried := 0, 0
	for _, ahead := range []int{0, 1, 20, 21, 22, 23, 24, 50} {
		text := longRun(ahead)
		value, steps, there := runText(text, 3000)
		if !there || value != "tt" {
			t.Fatalf("%s comes to %q in %d", text, value, steps)
		}
		for _, fuel := range []int{steps - 1, steps, steps + 1} {
			if fuel > impl.FuelMax {
				wantNoRun(t, fmt.Sprint(ahead, " ahead of a long run"), text, fuel)
				continue
			}
			got, taken, ok := impl.LangRun(text, fuel)
			if fits := fuel >= steps; ok != fits || fits && (got != "tt" || taken != steps) {
				t.Errorf("%d ahead of a long run: LangRun with %d = %q, %d, %v, want %d", ahead, fuel, got, taken, ok, steps)
			}
		}
		if steps > impl.FuelMax {
			wantNoRun(t, "more than FuelMax", text, impl.FuelMax)
			tried++
		} else {
			longest = max(longest, steps)
		}
	}
	if longest != impl.FuelMax || tried == 0 {
		t.Errorf("the longest run has %d steps, %d have more", longest, tried)
	}
}

// longRun returns a term of b that comes to tt in 1978 steps, and as many more as are told.
func longRun(more int) string {
	whole := "tt"
	for _, times := range []int{5, 6, 7, 8, 9} { // twice as many steps for each time
		whole = "(if " + wrapped(times, "(app (lam x b (if x x ff)) %)", "tt") + " " + whole + " ff)"
	}
	return wrapped(more, "(if tt % ff)", whole)
}

// P81: just TermMax atoms and more, and parentheses within each other just 200 times and 201 times, behind a step alone.
func TestLangStepAtTheLimit(t *testing.T) {
	twice := func(form string, inner string) string { return "(app (lam x b " + form + ") " + inner + ")" }
	even := func(atoms int) string { return "(if tt " + anyOf(atoms-3) + " ff)" }
	deep := func(times int) string { return wrapped(times, "(por % tt)", "ff") }
	for _, c := range []struct {
		name, text string
		atoms      int // behind the step
		depth      int
	}{
		{"app, 1199 atoms", twice("(por x x)", anyOf(599)), 1199, 0},
		{"app, 1200 atoms", twice("(if x x tt)", anyOf(599)), 1200, 0},
		{"app, 1201 atoms", twice("(por x x)", even(600)), 1201, 0},
		{"app, 1202 atoms", twice("(if x x tt)", even(600)), 1202, 0},
		{"app, very many atoms", twice(wrapped(190, "(por % x)", "x"), anyOf(601)), 114981, 0},
		{"fix, 1200 atoms", "(fix x b (por x " + anyOf(597) + "))", 1200, 0},
		{"fix, 1201 atoms", "(fix x b (por x (por x " + anyOf(395) + ")))", 1201, 0},
		{"fix, 1202 atoms", "(fix x b (por x " + even(598) + "))", 1202, 0},
		{"in the first part, 1198 atoms", "(if " + twice("(por x x)", anyOf(597)) + " ff tt)", 1198, 0},
		{"in the first part, 1200 atoms", "(if " + twice("(por x x)", even(598)) + " ff tt)", 1200, 0},
		{"in the first part, 1201 atoms", "(if " + twice("(if x x tt)", even(598)) + " ff tt)", 1201, 0},
		{"in both parts of por, 1199 atoms", "(por " + twice("(por x x)", anyOf(299)) + " " + twice("(por x x)", anyOf(299)) + ")", 1199, 0},
		{"in both parts of por, 1203 atoms", "(por " + twice("(por x x)", anyOf(299)) + " " + twice("(por x x)", anyOf(301)) + ")", 1203, 0},
		{"app, depth 200", twice(wrapped(150, "(por % tt)", "x"), deep(50)), 0, 200},
		{"app, depth 201", twice(wrapped(150, "(por % tt)", "x"), deep(51)), 0, 201},
		{"app, depth 200 within lam", "(app (app (lam x b (lam y b " + wrapped(150, "(por % tt)", "x") + ")) " + deep(48) + ") tt)", 0, 200},
		{"app, depth 201 within lam", "(app (app (lam x b (lam y b " + wrapped(150, "(por % tt)", "x") + ")) " + deep(49) + ") tt)", 0, 201},
		{"fix, depth 201", "(fix x b " + wrapped(100, "(por % ff)", "x") + ")", 0, 201},
		{"fix, depth 199", "(fix x b " + wrapped(99, "(por % ff)", "x") + ")", 0, 199},
		{"in the second part of por, depth 200", "(por ff " + twice(wrapped(150, "(por % tt)", "x"), deep(49)) + ")", 0, 200},
		{"in the second part of por, depth 201", "(por ff " + twice(wrapped(150, "(por % tt)", "x"), deep(50)) + ")", 0, 201},
		{"types, depth 200", twice(wrapped(150, "(por % tt)", "x"), wrapped(47, "(por % tt)", "(app (bot (> b b)) tt)")), 0, 200},
		{"types, depth 201", twice(wrapped(150, "(por % tt)", "x"), wrapped(48, "(por % tt)", "(app (bot (> b b)) tt)")), 0, 201},
	} {
		if kind, ok := impl.LangType(c.text); !ok || kind != "b" {
			t.Errorf("%s: LangType = %q, %v", c.name, kind, ok)
			continue
		}
		next := phraseOf(c.text).stepped().text()
		if c.atoms > 0 && atomsOf(next) != c.atoms || c.depth > 0 && depthOf(next) != c.depth {
			t.Errorf("%s: %d atoms and depth %d", c.name, atomsOf(next), depthOf(next))
		}
		_, ok := wantStep(t, c.text)
		if want := c.atoms <= impl.TermMax && c.depth <= 200; ok != want {
			t.Errorf("%s: LangStep is there: %v", c.name, ok)
		}
		wantRun(t, c.text, 1)
		wantRun(t, c.text, 30)
		if c.atoms > impl.TermMax || c.depth > 200 {
			wantNoRun(t, c.name, c.text, impl.FuelMax)
		}
	}
}

// P82: runs in which a step's result is no term, after some steps.
func TestLangRunThatGrows(t *testing.T) {
	for _, c := range []struct {
		text string
		most int // steps that lead to terms, or fewer
	}{
		{"(app (fix f (> b b) (lam x b (app f (por x x)))) tt)", 100},
		{"(app (fix f (> b b) (lam x b (por x (app f x)))) ff)", 600},
		{"(app (fix f (> b b) (lam x b (if (app f x) tt ff))) tt)", 600},
		{"(fst (fix p (* b b) (pair (por (fst p) (fst p)) tt)))", 100},
		{"(fix x b (por x (por x ff)))", 100},
	} {
		text, count := c.text, 0
		for {
			next, ok := impl.LangStep(text)
			if !ok || count > c.most {
				break
			}
			text, count = next, count+1
		}
		if phraseOf(text).isValue() || count < 3 || count > c.most {
			t.Errorf("%s takes %d steps to %.60s", c.text, count, text)
		}
		wantNoRun(t, c.text, c.text, count)
		wantNoRun(t, c.text, c.text, impl.FuelMax)
		wantRun(t, c.text, count+1)
		element, ok := impl.LangMean(c.text)
		wantIndex(t, c.text, element, ok, 0)
	}
	quick := "(por (app (fix f (> b b) (lam x b (app f (por x x)))) ff) " + wrapped(6, "(if tt % ff)", "tt") + ")"
	if !wantRun(t, quick, impl.FuelMax) {
		t.Errorf("%s does not end", quick)
	}
	slow := strings.Replace(quick, wrapped(6, "(if tt % ff)", "tt"), wrapped(100, "(if tt % ff)", "tt"), 1)
	if wantRun(t, slow, impl.FuelMax) {
		t.Errorf("%s ends", slow)
	}
	if element, ok := impl.LangMean(slow); !ok || element != 2 {
		t.Errorf("%s means %d, %v", slow, element, ok)
	}
}

// P81, P82: no state is kept, and what is told depends on the arguments alone.
func TestLangCallsKeepNothing(t *testing.T) {
	texts := someTerms(150)
	tell := func(text string) string {
		kind, typed := impl.LangType(text)
		element, means := impl.LangMean(text)
		next, steps := impl.LangStep(text)
		value, count, ends := impl.LangRun(text, 60)
		return fmt.Sprint(kind, typed, element, means, next, steps, value, count, ends, impl.LangPlain(text), impl.LangSame(text, text), impl.LangBelow(text, text))
	}
	var first, second []string
	for _, text := range texts {
		first = append(first, tell(text))
	}
	for _, text := range slices.Backward(texts) {
		second = append(second, tell(text))
	}
	slices.Reverse(second)
	if !slices.Equal(first, second) {
		t.Errorf("calls told something else the second time")
	}
}
