package tests

import (
	"fmt"
	"slices"
	"strings"
	"testing"

	"loop.example/scottdomains/impl"
)

// places has each place of each form, with % for what stands there.
var places = []string{
	"(lam x b %)", "(lam x (> b b) %)", "(lam f1 (* b b) %)", "(app % tt)", "(app % (pair tt ff))", "(app (lam x b x) %)", "(app (lam p (* b b) (fst p)) %)", "(app (bot (> (> b b) b)) %)",
	"(pair % tt)", "(pair tt %)", "(fst %)", "(snd %)", "(if % tt ff)", "(if tt % ff)", "(if tt ff %)", "(if ff % (lam x b x))", "(if ff (pair tt tt) %)",
	"(fix x b %)", "(fix x (> b b) %)", "(fix p (* b b) %)", "(por % tt)", "(por tt %)",
}

// fillers returns what is put at places: terms of several types, some with free names, and some without a type.
func fillers() []string {
	return []string{
		"tt", "ff", "x", "y", "b", "f1", "p", "(bot b)", "(bot (> b b))", "(bot (* b b))", "(bot (> (> b b) b))", "(lam y b y)", "(lam x b x)", "(lam y b x)", "(lam y b z)", "(lam p (* b b) (snd p))",
		"(lam y (> b b) y)", "(lam y (* b b) y)", "(lam y (> b b) (app y tt))", "(lam y (> b (> b b)) y)", "(pair tt ff)", "(pair x x)", "(pair tt (lam y b y))", "(pair (lam y b y) tt)", "(fst (pair tt tt))",
		"(fst x)", "(snd p)", "(app x tt)", "(app x x)", "(app f1 p)", "(if x x x)", "(if tt x ff)", "(por x x)", "(fix y b (por x y))", "(fix y (> b b) (lam x b (app y x)))", "(fix x (> b b) x)",
		"(app tt tt)", "(fst tt)", "(snd (lam y b y))", "(por tt (pair tt tt))", "(if (lam y b y) tt tt)", "(if tt tt (pair tt tt))", "(fix y b (lam x b y))", "(app (lam y b y) (lam y b y))", "(bot (> b (> b (> b (> b b)))))",
	}
}

// wantType fails if LangType of a text is not that of the document's sentences, or LangPlain does not hold just where there is one and no por.
func wantType(t *testing.T, text string, want string) {
	t.Helper()
	got, ok := impl.LangType(text)
	wantText(t, fmt.Sprintf("LangType(%.100q)", text), got, ok, want, want != "")
	plain := want != "" && !phraseOf(text).has("por")
	if impl.LangPlain(text) != plain {
		t.Errorf("LangPlain(%.100q) = %v", text, !plain)
	}
}

// has reports whether a head stands in a term.
func (p phrase) has(head string) bool {
	return p.head == head || slices.ContainsFunc(p.parts, func(part phrase) bool { return part.has(head) })
}

// P79, P87: against the definition, for all terms of at most six atoms with two names.
func TestLangTypeOfSmallTerms(t *testing.T) {
	some, none := 0, 0
	for i, text := range smallTerms(6) {
		if i%97 == 0 && !isTerm(text) {
			t.Errorf("%s is no term", text)
		}
		want := phraseOf(text).kindIn(map[string]string{}, map[string]bool{})
		wantType(t, text, want)
		if want != "" {
			some++
		} else {
			none++
		}
	}
	if some < 500 || none < 10000 {
		t.Errorf("%d terms with a type, %d others", some, none)
	}
}

// P79, P87: against the definition, for larger terms.
func TestLangTypeOfMadeTerms(t *testing.T) {
	for _, text := range someTerms(3000) {
		want, _ := kindOfText(text)
		if want == "" {
			t.Errorf("%s has no type", text)
		}
		wantType(t, text, want)
	}
}

// P79: types of terms that are known.
func TestLangTypeOfNamedTerms(t *testing.T) {
	for _, c := range namedTerms() {
		wantType(t, c.text, c.kind)
	}
}

// P79, P87: each place of each form, with terms of all types, with free names that are bound there or not, and without a type.
func TestLangTypeOfPlaces(t *testing.T) {
	some, none := 0, 0
	for _, outer := range append([]string{"%"}, places...) {
		for _, inner := range places {
			for _, filler := range fillers() {
				text := wrapped(1, outer, wrapped(1, inner, filler))
				want := phraseOf(text).kindIn(map[string]string{}, map[string]bool{})
				wantType(t, text, want)
				if want != "" {
					some++
				} else {
					none++
				}
			}
		}
	}
	if some < 1500 || none < 10000 {
		t.Errorf("%d terms with a type, %d others", some, none)
	}
}

// P79: bot of the type has it, and so has if of any condition and twice the term, if it is a term.
func TestLangTypeIsThatOfBotAndIf(t *testing.T) {
	for i, text := range someTerms(600) {
		kind, _ := impl.LangType(text)
		got, ok := impl.LangType("(bot " + kind + ")")
		wantText(t, "bot of "+kind, got, ok, kind, true)
		for _, condition := range []string{"tt", "ff", "(bot b)", "(fix x b x)", "(por tt (bot b))", "(app (lam b b b) tt)"}[i%6:] {
			got, ok = impl.LangType("(if " + condition + " " + text + " " + text + ")")
			wantText(t, "if of "+text, got, ok, kind, true)
		}
	}
	half := anyOf(599) // if of tt and twice it has 1200 atoms, and of a condition with more, more
	got, ok := impl.LangType("(if tt " + half + " " + half + ")")
	wantText(t, "if of 1200 atoms", got, ok, "b", true)
	wantNoTerm(t, "(if (bot b) "+half+" "+half+")")
	deep := wrapped(199, "(por % tt)", "tt")
	got, ok = impl.LangType("(if tt " + deep + " " + deep + ")")
	wantText(t, "if of depth 200", got, ok, "b", true)
	wantNoTerm(t, "(if tt (por "+deep+" tt) (por "+deep+" tt))")
}

// P79: all texts of at most five bytes of some of those that stand in terms.
func TestLangTypeOfShortTexts(t *testing.T) {
	texts, some := []string{""}, 0
	for range 6 {
		var longer []string
		for _, text := range texts {
			want, _ := kindOfText(text)
			got, ok := impl.LangType(text)
			wantText(t, fmt.Sprintf("LangType(%q)", text), got, ok, want, want != "")
			if want != "" {
				some++
			}
			for _, c := range "tfbx1() " {
				longer = append(longer, text+string(c))
			}
		}
		texts = longer
	}
	if some != 2 { // tt and ff
		t.Errorf("%d terms of at most five bytes", some)
	}
}

// P79: terms, and what they become when one byte is left out, changed or added.
func TestLangTypeOfChangedTexts(t *testing.T) {
	pieces := []string{"", "b", "x", "t", "tt", "1", "0", "A", ">", "*", "(", ")", " ", "  ", "\t", "\n", "\x00", "\xff", "-", "é"}
	some, none := 0, 0
	for i, text := range someTerms(240) {
		if i%4 > 0 || len(text) > 120 {
			continue
		}
		for _, changed := range changedTexts(text, pieces) {
			want, _ := kindOfText(changed)
			got, ok := impl.LangType(changed)
			wantText(t, fmt.Sprintf("LangType(%q)", changed), got, ok, want, want != "")
			if want != "" {
				some++
			} else {
				none++
			}
		}
	}
	if some < 1000 || none < 20000 {
		t.Errorf("%d terms, %d other texts", some, none)
	}
}

// P79: names with no, one, two, three and four digits, other letters, and words of the language, where they are bound and where they stand.
func TestLangTypeOfNames(t *testing.T) {
	for _, c := range []struct {
		name string
		want bool
	}{
		{"x", true}, {"a", true}, {"z", true}, {"b", true}, {"t", true}, {"f", true}, {"u", true}, {"l", true},
		{"x0", true}, {"x9", true}, {"b1", true}, {"x00", true}, {"x01", true}, {"z99", true}, {"x000", true}, {"a123", true}, {"z999", true},
		{"x0000", false}, {"a1234", false}, {"x99999", false}, {"x1y", false}, {"xy", false}, {"x12y", false}, {"xy1", false}, {"1x", false}, {"1", false}, {"0", false},
		{"X", false}, {"X1", false}, {"B", false}, {"Z", false}, {"_", false}, {"x_", false}, {"x-1", false}, {"x+1", false}, {"x.1", false}, {"x'", false}, {"`", false}, {"{", false}, {"@", false}, {"x/", false}, {"x:", false},
		{"tt", false}, {"ff", false}, {"lam", false}, {"app", false}, {"pair", false}, {"fst", false}, {"snd", false}, {"if", false}, {"fix", false}, {"por", false}, {"bot", false},
		{">", false}, {"*", false}, {"", false}, {"é", false}, {"x١", false}, {"x\n", false}, {"x\x00", false}, {"\xff", false}, {"(x)", false}, {"((x))", false},
	} {
		for _, head := range []string{"lam", "fix"} {
			kind := map[string]string{"lam": "(> b b)", "fix": "b"}[head]
			for _, text := range []string{"(" + head + " " + c.name + " b " + c.name + ")", "(" + head + " " + c.name + " b tt)"} {
				want := kind
				if !c.want {
					want = ""
				}
				got, ok := impl.LangType(text)
				wantText(t, fmt.Sprintf("LangType(%q)", text), got, ok, want, c.want)
			}
		}
	}
	for _, pair := range [][2]string{{"x", "x0"}, {"x0", "x"}, {"x0", "x00"}, {"x1", "x01"}, {"x10", "x1"}, {"x", "y"}, {"x1", "y1"}, {"x1", "x2"}} {
		wantNoTerm(t, "(lam "+pair[0]+" b "+pair[1]+")")
		text := "(app (app (lam " + pair[0] + " b (lam " + pair[1] + " b " + pair[0] + ")) tt) ff)"
		element, ok := impl.LangMean(text)
		wantIndex(t, text, element, ok, 2)
		value, _, ok := impl.LangRun(text, 9)
		wantText(t, text, value, ok, "tt", true)
	}
}

// P79, P87: names bound again within, with the same type or another one.
func TestLangTypeOfNamesBoundAgain(t *testing.T) {
	for text, want := range map[string]string{
		"(lam x b (lam x b x))":                          "(> b (> b b))",
		"(lam x b (lam x (> b b) x))":                    "(> b (> (> b b) (> b b)))",
		"(lam x (> b b) (lam x b x))":                    "(> (> b b) (> b b))",
		"(lam x (> b b) (app x (fix x b x)))":            "(> (> b b) b)",
		"(lam x b (app (lam x (* b b) (fst x)) x))":      "",
		"(lam x b (app (lam x b (pair x x)) x))":         "(> b (* b b))",
		"(lam x b (pair (fix x (> b b) x) x))":           "(> b (* (> b b) b))",
		"(lam x b (pair x (fix x (> b b) x)))":           "(> b (* b (> b b)))",
		"(fix x (> b b) (lam x b x))":                    "(> b b)",
		"(fix x (> b b) (lam x b (app x x)))":            "",
		"(app (lam x (* b b) (fst x)) (pair tt (x)))":    "",
		"(lam x (* b b) (if (fst x) (snd x) (por x x)))": "",
		"(lam b b (lam b1 b (por b b1)))":                "(> b (> b b))",
	} {
		wantType(t, text, want)
	}
}

// P79: the type of each part must have at most 9 atoms.
func TestLangTypeOfLargeParts(t *testing.T) {
	for text, want := range map[string]string{
		"(lam x (> b (> b b)) tt)":                                        "(> (> b (> b b)) b)",
		"(lam x (> b (> b b)) (lam y b tt))":                              "(> (> b (> b b)) (> b b))",
		"(lam x (> b (> b b)) x)":                                         "",
		"(lam x (* b b) (pair x x))":                                      "",
		"(lam x (* b b) (pair x tt))":                                     "(> (* b b) (* (* b b) b))",
		"(pair (bot (> b (> b b))) (bot (> b b)))":                        "(* (> b (> b b)) (> b b))",
		"(pair (bot (> b (> b b))) (bot (> b (> b b))))":                  "",
		"(fst (pair (bot (> b (> b b))) (bot (> b (> b b)))))":            "",
		"(fst (pair tt (pair tt (pair tt (pair tt tt)))))":                "b",
		"(fst (pair tt (pair tt (pair tt (pair tt (pair tt tt))))))":      "",
		"(app (lam x (> b (> b b)) tt) (bot (> b (> b b))))":              "b",
		"(app (lam x (> b (> b b)) x) (bot (> b (> b b))))":               "",
		"(lam x b (lam x b (lam x b (lam x b x))))":                       "(> b (> b (> b (> b b))))",
		"(lam x b (lam x b (lam x b (lam x b (lam x b x)))))":             "",
		"(if tt tt (app (lam x (> b (> b b)) ff) (lam x b (lam x b x))))": "b",
	} {
		wantType(t, text, want)
	}
}

// P79: just TermMax atoms, and more; those of types, names and words are counted, parentheses and spaces are not.
func TestLangTypeAtTermMax(t *testing.T) {
	for _, c := range []struct {
		text string
		want int
	}{
		{anyOf(1199), 1199},
		{"(if tt " + anyOf(1197) + " ff)", 1200},
		{anyOf(1201), 1201},
		{"(if tt " + anyOf(1199) + " ff)", 1202},
		{"(fix x b " + anyOf(1197) + ")", 1200},
		{"(fix x b " + anyOf(1199) + ")", 1202},
		{"(por (bot b) " + anyOf(1197) + ")", 1200},
		{"(por (bot b) (bot b))", 5},
		{"(por (fst (bot (* b b))) " + anyOf(1193) + ")", 1199},
		{"(por (fst (bot (* b b))) " + anyOf(1195) + ")", 1201},
		{"(por (app (bot (> b (* b b))) tt) " + anyOf(1101) + ")", -1},
		{"(por (app (bot (> b b)) (bot b)) " + anyOf(1191) + ")", 1199},
		{"(por (app (bot (> b b)) (bot b)) " + anyOf(1193) + ")", 1201},
		{"(por (snd (pair tt (bot b))) " + anyOf(1193) + ")", 1199},
		{"(por (app (bot (> b b)) tt) " + anyOf(1193) + ")", 1200},
		{"(por (app (bot (> b b)) tt) " + anyOf(1195) + ")", 1202},
		{wrapped(199, "(fix x999 b %)", "tt"), 598},
		{wrapped(199, "(fix x999 b (por % x999))", anyOf(205)), -1},
		{wrapped(20, "(por % "+anyOf(57)+")", anyOf(39)), 1199},
		{wrapped(20, "(por % "+anyOf(57)+")", "(if tt "+anyOf(37)+" tt)"), 1200},
		{wrapped(20, "(por % "+anyOf(57)+")", anyOf(41)), 1201},
		{anyOf(99999), 99999},
	} {
		got, ok := impl.LangType(c.text)
		if c.want < 0 {
			want, _ := kindOfText(c.text)
			wantText(t, fmt.Sprintf("%.60q", c.text), got, ok, want, want != "")
			continue
		}
		if atomsOf(c.text) != c.want {
			t.Errorf("%.60q has %d atoms, not %d", c.text, atomsOf(c.text), c.want)
		}
		if c.want > impl.TermMax {
			wantNoTerm(t, c.text)
			continue
		}
		wantText(t, fmt.Sprintf("%d atoms", c.want), got, ok, "b", true)
		element, ok := impl.LangMean(c.text)
		if !ok || element < 0 || element > 2 {
			t.Errorf("%d atoms: LangMean = %d, %v", c.want, element, ok)
		}
	}
}

// P79: parentheses within each other just 200 times, and 201 times, at each place of each form, those of types among them.
func TestLangTypeAtDepth(t *testing.T) {
	cores := []string{
		"tt", "(bot b)", "(por tt ff)", "(app (lam x b x) tt)", "(app (bot (> b b)) tt)", "(fst (bot (* b b)))", "(app (fix f (> b b) f) tt)",
		"(fst (snd (bot (* b (* b b)))))", "(app (app (bot (> b (> b b))) tt) tt)", "(app (lam x (> b b) tt) (bot (> b b)))", "(fst (app (lam x b (bot (* b b))) tt))",
	}
	for _, form := range []string{
		"(if % tt ff)", "(if tt % ff)", "(if tt ff %)", "(por % tt)", "(por tt %)", "(fix x b %)", "(fst (pair % tt))", "(snd (pair tt %))",
		"(app (lam x b %) tt)", "(app (lam x b x) %)", "(app (if tt (lam x b %) (lam x b x)) ff)", "(fst (fix x (* b b) (pair % tt)))", "(app (fix x (> b b) (lam y b %)) tt)",
	} {
		fits, none := 0, 0
		ahead, _, _ := strings.Cut(form, "%")
		step := strings.Count(ahead, "(") - strings.Count(ahead, ")")
		for n := 190 / step; n <= 202/step; n++ {
			for _, core := range cores {
				text := wrapped(n, form, core)
				if atomsOf(text) > 1200 {
					text = wrapped(n-100, "(if % tt ff)", wrapped(100, form, core))
				}
				depth := depthOf(text)
				if depth < 199 || depth > 202 {
					continue
				}
				got, ok := impl.LangType(text)
				wantText(t, fmt.Sprintf("%d of %s around %s", n, form, core), got, ok, map[bool]string{true: "b"}[depth <= 200], depth <= 200)
				if depth == 200 {
					fits++
				}
				if depth == 201 {
					none++
				}
			}
		}
		if fits == 0 || none == 0 {
			t.Errorf("%s: %d of depth 200, %d of depth 201", form, fits, none)
		}
	}
	for _, text := range []string{wrapped(100000, "(por tt %)", "tt"), strings.Repeat("(por ", 100000), strings.Repeat("(", 100000), strings.Repeat("(lam x ", 100000), strings.Repeat("(bot (> ", 10000), strings.Repeat("(por ", 1<<22)} {
		wantNoTerm(t, text)
	}
}

// P87: LangStep of a plain term, if it succeeds, is plain, too.
func TestLangPlainIsKept(t *testing.T) {
	plain := 0
	for _, text := range someTerms(1500) {
		for range 30 {
			if !impl.LangPlain(text) {
				break
			}
			plain++
			kind, ok := impl.LangType(text)
			next, fine := impl.LangStep(text)
			if !ok || fine && !impl.LangPlain(next) {
				t.Errorf("%s of type %q steps to %s", text, kind, next)
			}
			if !fine {
				break
			}
			text = next
		}
	}
	if plain < 1000 {
		t.Errorf("%d plain terms", plain)
	}
}
