package tests

import (
	"fmt"
	"slices"
	"strings"
	"testing"

	"loop.example/scottdomains/impl"
)

// noNumbers returns rests that are no numbers: of three digits and more, with a sign, with spaces, with other letters, empty.
func noNumbers() []string {
	return []string{
		"", " ", "  ", "100", "000", "001", "012", "199", "200", "999", "0000", "1234567890", "-1", "+1", "-0", "+0", "--", "-", "+", "- 1", " 1", "1 ", " 1 ", "1 2", "\t1", "1\t", "1\r", "\r",
		"x", "a", "A", "1x", "x1", "0x", "0b", "1e", "1.", ".1", "1,", "_1", "1_", "٥", "５", "²", "½", "\x00", "\x001", "1\x00", "\xff", "1\xff", "tt", "one", "/", ":", "9:", "/0",
	}
}

// stays returns scripts that lead to several terms and domains.
func stays() []string {
	return []string{
		"",
		"flat 3\nterm (lam x b x)\n",
		"term (por (bot b) tt)\nshape (l (l x))\n",
		"term (lam x b (lam y b (if x y ff)))\nshape b\nshape (> x (l u))\n",
		"flat 99\nterm (pair tt (bot b))\nshape (* x (l u))\n",
	}
}

// P100: words with a rest or without one where the other is told, with a space alone, with two, in capitals, and other texts.
func TestExecuteOfOtherLines(t *testing.T) {
	lines := []string{
		"", " ", "  ", "\t", "\r", "\x00", "\xff", "é", "zzz", "ok", "no", "what", "tt", "x", "0", "atoms", "elements", "too long", "(lam x b x)", "quit", "help", "set", "domain", "lift", "product", "sum", "fun", "stage", "link", "same", "below", "sequential",
		"showtype", "show\ttype", "terms tt", "termtt", "term(bot b)", "term\ttt", "term\u00a0tt", "term\x00tt", "\"show\"", "show;", "show,type", "1 show", "- show", "run9", "run=9", "run\t9", "flat5", "flat-5", "define:1", "stages(l x)", "shape(l x)",
	}
	for _, word := range aloneWords {
		lines = append(lines, word+" ", word+"  ", word+" 1", word+" tt", word+" "+word, word+" x", word+"  x", word+" \t", word+" \x00")
	}
	lines = append(lines, restWords...)
	for _, word := range slices.Concat(aloneWords, restWords) {
		for _, line := range []string{word, word + " 1", word + " tt", word + " x"} {
			lines = append(lines, " "+line, "\t"+line, "  "+line, "x"+line, strings.ToUpper(line), strings.ToUpper(line[:1])+line[1:], "\x00"+line, "\ufeff"+line, "x "+line)
		}
		lines = append(lines, word+"\r", word+"\t", word+"\t1", word+"\x00", word+"\v", word+"x", word+"s", word+word, word+"_", word+"-", word+".", word+"\u00a0", word+"\u00a01", word[1:], word[:len(word)-1])
	}
	for _, script := range stays() {
		for _, line := range lines {
			wantMore(t, script, line+"\n", "what")
		}
	}
}

// P100: rests that fail leave the term and the domain as they are: no terms, no shapes, no numbers, or none where one is told.
func TestExecuteOfOtherRests(t *testing.T) {
	var lines []string
	for _, text := range append(noTerms(), "x", "b", "z99", "(lam x b y)", "(pair x tt)", "(app tt tt)", "(fst tt)", "(por tt (lam x b x))", "(lam x (> b (> b b)) x)", " tt", "tt ", "tt  ", "  tt", "tt tt", "(bot  b)", "tt\r", "tt\x00") {
		if len(text) < 600 && !strings.Contains(text, "\n") {
			lines = append(lines, "term "+text)
		}
	}
	for _, text := range []string{"", " ", "y", "X", "t", "xx", "x x", " x", "x ", "(x)", "()", "(l)", "(l x", "l x", "(l x))", "(l  x)", "(l x )", "( l x)", "(* x)", "(* x x x)", "(> x)", "(- x x)", "(> x  x)", "(+ x y)", "5", "b\r", "\x00", "\xff", nested(12, "x"), nested(40, "b")} {
		lines = append(lines, "shape "+text, "stages "+text)
	}
	for _, text := range noNumbers() {
		lines = append(lines, "run "+text, "flat "+text, "define "+text)
	}
	for _, script := range stays() {
		for _, line := range lines {
			wantMore(t, script, line+"\n", "no")
		}
	}
}

// P100, P103: numbers of one digit and of two, with a leading zero, too.
func TestExecuteOfNumbers(t *testing.T) {
	for n := range 100 {
		texts := []string{fmt.Sprintf("%02d", n)}
		if n < 10 {
			texts = append(texts, fmt.Sprint(n))
		}
		for _, text := range texts {
			wantAnswers(t, "flat 7\nflat "+text+"\nsize\n", "ok", "ok", fmt.Sprintf("%d %d", n+1, min(2, n+1)), fmt.Sprint("atoms 1 elements ", n+1))
			wantAnswers(t, "run "+text+"\n", "tt 0", "atoms 1 elements 1")
			for arity, kind := range firstOrders {
				script := "term (bot " + kind + ")\ndefine " + text + "\nmean\n"
				parallel, ok := impl.ParallelTerm(kind, n)
				if ok != (n < firstOrderSizes[arity]) {
					t.Errorf("ParallelTerm of %d of %s is there: %v", n, kind, ok)
				}
				if ok {
					wantAnswers(t, script, "ok", "ok", fmt.Sprint(n), fmt.Sprintf("atoms %d elements 1", atomsOf(parallel)))
				} else {
					wantAnswers(t, script, "ok", "no", "0", fmt.Sprintf("atoms %d elements 1", 1+atomsOf(kind)))
				}
			}
		}
	}
}

// P100: the words without a rest fail where they must, and change nothing.
func TestExecuteOfWordsThatFail(t *testing.T) {
	for _, text := range []string{"tt", "ff", "(lam x b (fix y b x))", "(pair (if tt tt ff) tt)"} {
		wantMore(t, "flat 2\nterm "+text+"\n", "step\n", "no")
		wantMore(t, "flat 2\nterm "+text+"\n", "step\nshow\nstep\n", "no", text, "no")
	}
	for _, text := range []string{"(bot (> (> b b) b))", "(lam f (> (> b b) b) tt)", "(fst (pair tt (bot (> (> b b) b))))"} {
		wantMore(t, "flat 2\nterm "+text+"\n", "mean\nshow\nmean\n", "no", text, "no")
	}
	for _, lines := range []string{"flat 5\n", "flat 71\n", "flat 99\nshape (* x (l u))\n", "flat 2\nshape (* x x)\n", "shape (> b (> b b))\n"} {
		wantMore(t, lines, "funs\nshow\nfuns\n", "no", "tt", "no")
	}
}

// P100: types that are not first-order have no elements to define.
func TestExecuteOfOtherDefines(t *testing.T) {
	for _, kind := range allTypes() {
		if slices.Contains(firstOrders, kind) {
			continue
		}
		text := "(bot " + kind + ")"
		wantMore(t, "term "+text+"\n", "define 0\nshow\ndefine 1\ndefine 99\n", "no", text, "no", "no")
	}
}

// P99: whatever the bytes, there is an output of whole lines, one for each newline and one more.
func TestExecuteOfAnyBytes(t *testing.T) {
	s := speaker{seed: 99}
	pieces := append(slices.Concat(aloneWords, restWords), " ", " ", "\n", "\n", "\n", "(", ")", "x", "b", "tt", "(l x)", "5", "0", "\x00", "\xff", "\r", "é", "λ", "term tt", "flat 2", "(lam x b x)")
	for i := range 3000 {
		script := ""
		for range i % 150 {
			if i%3 == 0 {
				script += string([]byte{byte(s.next(256))})
			} else {
				script += s.choose(pieces...)
			}
		}
		got := impl.Execute(script)
		if len(script) > 800 {
			wantOutput(t, script, "too long\n")
			continue
		}
		if got == "" || !strings.HasSuffix(got, "\n") || strings.Count(got, "\n") != strings.Count(script, "\n")+1 {
			t.Errorf("Execute(%q) = %q", script, got)
		}
		wantOutput(t, script, newConsole().output(script))
	}
}
