package tests

import (
	"fmt"
	"strings"
	"testing"

	"loop.example/scottdomains/impl"
)

// noTerms returns texts that are no term, by what is wrong with them.
func noTerms() []string {
	return []string{
		"", " ", "  ", "(", ")", "()", "( )", "((", "))", ")(", "(())", "\x00", "\xff", "\n", "×", "λ", "0", "1", "2", "-1", "true", "T", "TT", "Tt", "t t", "tt ", " tt", "tt\n", "\ntt", "tt\x00", "ttt", "tt tt", "(tt)", "((tt))", "(ff)", "f f", "fff", "tt)", "(tt",
		"lam", "app", "pair", "fst", "snd", "if", "fix", "por", "bot", "(lam)", "(app)", "(pair)", "(fst)", "(snd)", "(if)", "(fix)", "(por)", "(bot)", "(lam )", "(bot )", "(por )", "(fst )",
		"lam x b x", "(lam x b x", "lam x b x)", "(lam x b x))", "((lam x b x)", "((lam x b x))", "(lam x b x )", "( lam x b x)", "(lam  x b x)", "(lam x  b x)", "(lam x b  x)", " (lam x b x)", "(lam x b x) ", "(lam\tx b x)", "(lam x\nb x)", "(lam x b\u00a0x)",
		"(lamx b x)", "(lam xb x)", "(lam x bx)", "(lam x b)", "(lam x x)", "(lam b x)", "(lam x b x x)", "(lam x b b x)", "(lam x tt x)", "(lam tt b tt)", "(lam (x) b x)", "(lam x (b) x)", "(lam x b (x))", "(lam x y b x)", "(Lam x b x)", "(LAM x b x)", "(lambda x b x)", "(lam x b x)(lam x b x)", "(lam x (> b b)x)", "(lam x(> b b) x)",
		"(lam x (> b) x)", "(lam x (> b b b) x)", "(lam x (b > b) x)", "(lam x > b b x)", "(lam x (bot b) x)", "(lam x (+ b b) tt)", "(lam x u tt)", "(lam x () tt)", "(lam x  tt)", "(lam  b tt)", "(lam x (> b b tt)", "(lam x (> b  b) tt)", "(lam x (>  b b) tt)", "(lam x ( > b b) tt)", "(lam x (> b b ) tt)", "(lam x (> x b) tt)",
		"(app tt)", "(app (lam x b x))", "(app (lam x b x) )", "(app (lam x b x) tt", "(app (lam x b x) tt))", "(app  (lam x b x) tt)", "(app (lam x b x)  tt)", "(app(lam x b x) tt)", "(app (lam x b x)tt)", "(app (lam x b x) tt )", "(app (lam x b x) tt tt)", "((lam x b x) tt)", "(app (lam x b x) ())", "(App (lam x b x) tt)", "(apply (lam x b x) tt)",
		"(pair tt)", "(pair tt tt tt)", "(pair tt  tt)", "(pair  tt tt)", "(pair tt tt )", "(pair tttt)", "(tt tt)", "(pair (tt) tt)", "(pair tt, tt)", "(fst (pair tt tt) tt)", "(fst  (pair tt tt))", "(fst (pair tt tt) )", "(fst(pair tt tt))", "(snd (pair tt tt) tt)", "(snd  (pair tt tt))", "(snd(pair tt tt))", "(first (pair tt tt))", "(fst pair tt tt)", "(snd (pair tt tt)", "(thd (pair tt tt))",
		"(if tt tt)", "(if tt)", "(if tt tt ff tt)", "(if  tt tt ff)", "(if tt  tt ff)", "(if tt tt  ff)", "(if tt tt ff )", "(if tt tt ff", "(if tt tt ff))", "(iff tt tt ff)", "(If tt tt ff)", "(if (tt) tt ff)", "(if tt then ff)", "(if tt tt else ff)",
		"(fix x b)", "(fix x x)", "(fix b x)", "(fix x b x x)", "(fix  x b x)", "(fix x  b x)", "(fix x b  x)", "(fix x b x )", "(fix x b x", "(fix x b x))", "(fix tt b tt)", "(fix fix b tt)", "(fix x tt tt)", "(fix (x) b tt)", "(Fix x b x)", "(fixx b x)", "(mu x b x)", "(rec x b x)",
		"(por tt)", "(por tt tt tt)", "(por  tt tt)", "(por tt  tt)", "(por tt tt )", "(por tt tt", "(por tt tt))", "(or tt tt)", "(Por tt tt)", "(portt tt)", "(por (tt) tt)", "(por tt por)", "(por por tt)", "(pand tt tt)", "(POR tt tt)",
		"(bot)", "(bot b b)", "(bot tt)", "(bot x)", "(bot  b)", "(bot b )", "(bot b", "(bot b))", "bot b", "(bot (b))", "(bot > b b)", "(bot (> b b)", "(botb)", "(Bot b)", "(bot B)", "(bot u)", "(bottom b)", "(bot (l b))", "(bot (+ b b))", "(bot ())",
		"b b", "(> b b)", "(* b b)", "(* tt tt)", "(> tt tt)", "(x)", "(x tt)", "(x x)", "[lam x b x]", "(lam x b x]", "{tt}", "(lam x b tt; tt)", "(lam x b tt);", "(not tt)", "(let x tt x)", "(x b tt)", "(lam x b tt) tt", "tt (lam x b tt)",
		"(bot (> b (> b (> b (> b (> b b))))))", "(lam x (> b (> b (> b (> b (> b b))))) tt)", "(fix x (* b (* b (* b (* b (* b b))))) x)",
		strings.Repeat("tt", 5000), strings.Repeat(" ", 5000), strings.Repeat("x ", 5000), strings.Repeat("()", 5000), strings.Repeat(")", 5000),
	}
}

// P79 to P88: texts that are no term.
func TestLangOfOtherTexts(t *testing.T) {
	for _, text := range noTerms() {
		if isTerm(text) {
			t.Errorf("%.60q is a term", text)
		}
		wantNoTerm(t, text)
	}
}

// P79 to P88: terms with free names, alone, at each place of each form, behind and beside where they are bound.
func TestLangOfFreeNames(t *testing.T) {
	texts := []string{
		"x", "b", "z999", "t", "f", "(lam x b y)", "(fix x b y)", "(pair (lam x b x) x)", "(pair x (lam x b x))", "(app (lam x b x) x)", "(por (fix x b x) x)", "(if (fix x b x) x tt)", "(lam x b (pair (lam y b x) y))", "(fst (pair tt x))", "(if tt tt x)",
		"(app (lam x b (lam y b (por x (por y z)))) tt)", "(lam x0 b x)", "(lam x b x0)", "(lam x b x00)", "(lam x00 b x0)", "(app (lam b b b) b)", "(app (fix f (> b b) f) f)",
	}
	for _, place := range places {
		texts = append(texts, wrapped(1, place, "q"), wrapped(1, place, "(fst q)"), wrapped(1, place, "(lam r b q)"), wrapped(1, place, "(fix r b q)"), wrapped(1, place, "(pair (lam q b q) q)"))
	}
	for _, text := range texts {
		if !isTerm(text) {
			t.Errorf("%s is no term", text)
		}
		wantNoTerm(t, text)
	}
}

// P79 to P88: terms without a type, at each place of each form.
func TestLangOfNoTypes(t *testing.T) {
	texts := []string{
		"(app tt tt)", "(app (pair tt tt) tt)", "(app (lam x b x) (lam x b x))", "(app (lam x b x) (pair tt tt))", "(app (lam x (> b b) tt) tt)", "(app (lam x (* b b) tt) (pair tt (pair tt tt)))", "(app (lam x (* b b) tt) (lam x b x))",
		"(fst tt)", "(snd tt)", "(fst (lam x b x))", "(snd (lam x b x))", "(fst (fst (pair tt (pair tt tt))))", "(snd (snd (pair (pair tt tt) tt)))",
		"(if (lam x b x) tt tt)", "(if (pair tt tt) tt tt)", "(if tt tt (lam x b x))", "(if tt (pair tt tt) tt)", "(if tt (lam x b x) (lam x (> b b) tt))", "(if tt (pair tt tt) (lam x b tt))", "(if tt (bot (* b b)) (bot (> b b)))",
		"(fix x b (lam y b x))", "(fix x (> b b) tt)", "(fix x (* b b) (fst x))", "(fix x b (pair x x))", "(fix f (> b b) (lam x b f))", "(fix f (> b b) (app f tt))", "(fix f (> b (> b b)) (lam x b (app (app f x) x)))",
		"(por (lam x b x) tt)", "(por tt (lam x b x))", "(por (pair tt tt) (pair tt tt))", "(por (bot (> b b)) (bot (> b b)))", "(lam x b (app x x))", "(lam x (> b b) (app x x))", "(fix x (> b b) (app x x))", "(lam p (* b b) (app p tt))",
		"(lam x (> b (> b b)) x)", "(pair (bot (> b (> b b))) (bot (> b (> b b))))", "(lam x b (bot (> b (> b (> b (> b b))))))", "(lam x (> b (> b (> b (> b b)))) tt)", "(pair tt (bot (> b (> b (> b (> b b))))))",
	}
	for _, place := range places {
		for _, part := range []string{"(app tt tt)", "(fst tt)", "(por tt (lam x b x))", "(fix x b (lam y b x))", "(if tt tt (pair tt tt))", "(lam x (> b (> b b)) x)"} {
			texts = append(texts, wrapped(1, place, part))
		}
	}
	for _, text := range texts {
		if !isTerm(text) {
			t.Errorf("%s is no term", text)
		}
		wantNoTerm(t, text)
	}
}

// P82: numbers of steps that are negative or greater than FuelMax, for values, too.
func TestLangRunOfOtherFuel(t *testing.T) {
	for _, text := range []string{"tt", "(lam x b x)", "(pair tt (bot b))", "(por tt (bot b))", "(bot b)", "(app (lam x b x) tt)"} {
		for _, fuel := range append(outside(impl.FuelMax), -impl.FuelMax, 2*impl.FuelMax, 1<<31, 1<<32+1) {
			if fuel < 0 || fuel > impl.FuelMax {
				wantNoRun(t, text, text, fuel)
			}
		}
	}
	value, steps, ok := impl.LangRun("(por tt (bot b))", impl.FuelMax)
	wantText(t, "with all the fuel", value, ok && steps == 1, "tt", true)
}

// P85, P88: an argument that is no term, on both sides, beside itself and beside each good one.
func TestLangSameOfOtherTexts(t *testing.T) {
	for _, good := range []string{"tt", "(bot b)", "(lam x b x)", "(pair tt tt)"} {
		if !impl.LangSame(good, good) || !impl.LangBelow(good, good) {
			t.Errorf("%s is not the same as itself", good)
		}
		for _, bad := range []string{"", " ", "x", "tt ", "(tt)", "(app tt tt)", "(bot (> (> b b) b))", "b", "(lam x b y)", good + " ", " " + good, "(" + good + ")", good + good} {
			for _, c := range [][2]string{{good, bad}, {bad, good}, {bad, bad}} {
				if impl.LangSame(c[0], c[1]) || impl.LangBelow(c[0], c[1]) {
					t.Errorf("LangSame or LangBelow of %q and %q", c[0], c[1])
				}
			}
		}
	}
}

// The limits are those of the document.
func TestLangLimits(t *testing.T) {
	if got := fmt.Sprint(impl.TermMax, impl.FuelMax); got != "1200 2000" {
		t.Errorf("TermMax and FuelMax are %s", got)
	}
}
