package tests

import (
	"fmt"
	"slices"
	"strings"
	"testing"

	"loop.example/scottdomains/impl"
)

// P99 to P104: against the document's sentences, for scripts made from seeds.
func TestExecute(t *testing.T) {
	tally, long := map[string]int{}, 0
	for _, script := range scripts(5000) {
		c := newConsole()
		wantOutput(t, script, c.output(script))
		for key, n := range c.tally {
			tally[key] += n
		}
		if len(script) > impl.MaxScript {
			long++
		}
	}
	for _, word := range slices.Concat(aloneWords, restWords) {
		fails := !slices.Contains([]string{"show", "type", "size"}, word)
		if tally[word] < 300 || fails && tally[word+": no"] < 300 {
			t.Errorf("%s: %d succeed, %d fail", word, tally[word], tally[word+": no"])
		}
	}
	if tally["what"] < 1000 || long < 10 {
		t.Errorf("%d other lines, %d scripts too long", tally["what"], long)
	}
}

// P102, P103: the words of terms where they succeed.
func TestExecuteOfTerms(t *testing.T) {
	wantTranscript(t, `
> show
tt
> type
b
> mean
2
> run 0
tt 0
> term (app (app (lam x b (lam y b (por x y))) ff) (if tt tt ff))
ok
> show
(app (app (lam x b (lam y b (por x y))) ff) (if tt tt ff))
> type
b
> mean
2
> run 9
tt 4
> show
(app (app (lam x b (lam y b (por x y))) ff) (if tt tt ff))
> step
ok
> show
(app (lam y b (por ff y)) (if tt tt ff))
> step
ok
> show
(por ff (if tt tt ff))
> run 2
tt 2
> step
ok
> show
(por ff tt)
> step
ok
> show
tt
> term (pair (bot b) (lam x (* b b) (fst x)))
ok
> type
(* b (> (* b b) b))
> run 0
(pair (bot b) (lam x (* b b) (fst x))) 0
> term (fix f (> b b) (lam x b (if x tt (app f tt))))
ok
> type
(> b b)
> mean
8
> run 1
(lam x b (if x tt (app (fix f (> b b) (lam x b (if x tt (app f tt)))) tt))) 1
atoms 14 elements 1`)
}

// P102, P103: the words of terms where they fail; nothing is changed then.
func TestExecuteOfTermsThatFail(t *testing.T) {
	wantTranscript(t, `
> step
no
> show
tt
> term (fst (pair ff tt))
ok
> term x
no
> term (lam x b y)
no
> term (app tt tt)
no
> term (fst tt)
no
> term (lam x b x
no
> term (lam x b (lam y (> b b) (lam z (> b b) x)))
no
> show
(fst (pair ff tt))
> run 0
no
> run 1
ff 1
> show
(fst (pair ff tt))
atoms 4 elements 1`)
}

// P102, P103: values that take no step, a term whose meaning is there behind a step alone, and one that runs on.
func TestExecuteOfStepsThatFail(t *testing.T) {
	wantTranscript(t, `
> term (fst (pair ff tt))
ok
> step
ok
> step
no
> show
ff
> term (lam x b (fix y b x))
ok
> step
no
> run 0
(lam x b (fix y b x)) 0
> term (pair (if tt tt ff) tt)
ok
> step
no
> show
(pair (if tt tt ff) tt)
> term (if tt tt (app (bot (> (> b b) b)) (lam x b x)))
ok
> mean
no
> type
b
> step
ok
> mean
2
> term (bot b)
ok
> run 99
no
> mean
0
> step
ok
> show
(bot b)
atoms 2 elements 1`)
}

// P104: the words of domains where they succeed and where they fail; nothing is changed then.
func TestExecuteOfDomains(t *testing.T) {
	wantTranscript(t, `
> size
1 1
> funs
1
> shape (l x)
ok
> size
2 2
> funs
3
> shape (* x x)
ok
> size
4 3
> shape (+ x (l x))
ok
> size
10 5
> funs
no
> size
10 5
> flat 1
ok
> shape (> x x)
ok
> size
3 3
> shape (> x x)
ok
> size
10 7
> shape (> x x)
no
> shape (> (> x x) u)
no
> size
10 7
> shape y
no
> shape (l (l x)
no
> size
10 7
atoms 1 elements 10`)
}

// P104: flat domains, shapes of just ElementsMax elements and one more, and functions that are counted or not.
func TestExecuteOfFlatDomains(t *testing.T) {
	wantTranscript(t, `
> flat 4
ok
> size
5 2
> funs
629
> flat 5
ok
> size
6 2
> funs
no
> flat 99
ok
> size
100 2
> shape (* x (l u))
ok
> size
200 3
> shape (l x)
no
> flat 100
no
> size
200 3
> shape b
ok
> size
3 2
> shape x
ok
> size
3 2
> flat 0
ok
> size
1 1
atoms 1 elements 1`)
}

// P104: stages of shapes, which change nothing, and of what is none.
func TestExecuteOfStages(t *testing.T) {
	wantTranscript(t, `
> flat 2
ok
> stages x
1 1 1 1 1 1 1
> stages b
1 3 3 3 3 3 3
> stages (l x)
1 2 3 4 5 6 7
> stages (l (> x x))
1 2 4 36
> stages (* x b)
1 3 9 27 81
> stages (l (l (l (l (> b (> b b))))))
1
> stages y
no
> stages (l x) x
no
> stages (l (l (l (l (l (l (l (l (l (l (l (l x))))))))))))
no
> stages 3
no
> size
3 2
> show
tt
atoms 1 elements 3`)
}

// The word define tells ParallelTerm of the type of the term, where there is such an element and the type is first-order.
func TestExecuteOfDefine(t *testing.T) {
	wantTranscript(t, `
> define 3
no
> define 1
ok
> show
ff
> define 0
ok
> show
(bot b)
> define 2
ok
> show
tt
> term (lam x b x)
ok
> define 11
no
> show
(lam x b x)
> define 10
ok
> mean
10
> type
(> b b)
> define 0
ok
> mean
0
> show
(lam x b (if (por (if x tt tt) (if (bot b) tt tt)) (por (por (if (por (if x ff tt) (if (bot b) ff tt)) ff tt) (if (por (if (if x ff tt) ff tt) (if (bot b) ff tt)) ff tt)) (if (por (if (bot b) ff tt) (if (bot b) ff tt)) ff tt)) (bot b)))
atoms 61 elements 1`)
}

// The word define for two arguments, numbers of two digits and three, and types that are not first-order.
func TestExecuteOfDefineForMoreTypes(t *testing.T) {
	wantTranscript(t, `
> term (lam x b (lam y b tt))
ok
> define 99
ok
> mean
99
> define 100
no
> mean
99
> type
(> b (> b b))
> define 07
ok
> mean
7
> term (pair tt tt)
ok
> define 0
no
> define 8
no
> term (lam f (> b b) tt)
ok
> define 0
no
> show
(lam f (> b b) tt)
> term (lam p (* b b) tt)
ok
> define 1
no
> show
(lam p (* b b) tt)
atoms 6 elements 1`)
}

// P99: an empty script, and those whose last line has no newline.
func TestExecuteOfNoLines(t *testing.T) {
	for _, script := range []string{"", "x", " ", "show", "term ff", "flat 5", "shape b", "step", "zzz", "\x00", "\xff", "\r", strings.Repeat("x", 800)} {
		wantOutput(t, script, "atoms 1 elements 1\n")
	}
	wantAnswers(t, "\n", "what", "atoms 1 elements 1")
	wantAnswers(t, "\n\nshow\n\n", "what", "what", "tt", "what", "atoms 1 elements 1")
	wantAnswers(t, "flat 5\nflat 6", "ok", "atoms 1 elements 6")
	wantAnswers(t, "term (bot b)\nterm tt", "ok", "atoms 2 elements 1")
	wantAnswers(t, "\nshow", "what", "atoms 1 elements 1")
}

// P99: what follows the last newline is ignored, whatever it is.
func TestExecuteIgnoresTheLastLine(t *testing.T) {
	m := newLineMaker()
	m.seed = 5
	for _, script := range scripts(300) {
		for _, tail := range []string{m.line(), "term (bot b)", "flat 7", "show ", "\x00\xff", strings.Repeat("x", max(0, 800-len(script)))} {
			if tail = strings.ReplaceAll(tail, "\n", ""); len(script)+len(tail) <= 800 {
				wantOutput(t, script+tail, impl.Execute(script))
			}
		}
	}
}

// P99: just MaxScript bytes, and one more and many more, as bytes and not as letters, with lines or without.
func TestExecuteAtMaxScript(t *testing.T) {
	for _, fill := range []string{"\n", "x", "show\n", "é", "term é\n", "flat 5\n", "funs\n", "step\n", "\xff", "\x00\n", "a\nλ\n", "zzz"} {
		script := strings.Repeat(fill, 800/len(fill))
		script += strings.Repeat("x", 800-len(script))
		if len(script) != 800 || impl.MaxScript != 800 {
			t.Fatalf("%d bytes, MaxScript is %d", len(script), impl.MaxScript)
		}
		wantOutput(t, script, newConsole().output(script))
		wantOutput(t, script[:799]+"\n", newConsole().output(script[:799]+"\n"))
		if got := impl.Execute(script); strings.Contains(got, "too long") || !strings.Contains(got, "atoms") {
			t.Errorf("Execute of 800 bytes of %q = %.60q", fill, got)
		}
		for _, more := range []string{"x", "\n", "\x00", "é", fill, script, strings.Repeat("show\n", 100000)} {
			wantOutput(t, script+more, "too long\n")
			wantOutput(t, more+script, "too long\n")
		}
	}
	wantOutput(t, strings.Repeat("show\n", 160), strings.Repeat("tt\n", 160)+"atoms 1 elements 1\n")
	wantOutput(t, strings.Repeat("é", 401), "too long\n")
	wantOutput(t, strings.Repeat("é", 400), "atoms 1 elements 1\n")
}

// P100, P101: lines behind a script that change nothing, for the scripts with room for them.
func TestExecuteOfMoreLines(t *testing.T) {
	full := 0
	for _, script := range scripts(700) {
		for room := 0; room <= 1; room++ { // as it is, and with just the room
			if len(script)+11 <= 800 {
				wantMore(t, script, "zzz\nterm x\n", "what", "no")
			}
			if len(script)+10 <= 800 {
				c := newConsole()
				c.output(script)
				wantMore(t, script, "show\nshow\n", c.term, c.term)
			}
			script += strings.Repeat("\n", max(0, 800-11-len(script)))
			if len(script) == 800-11 {
				full++
			}
		}
	}
	if full < 500 {
		t.Errorf("%d scripts of 789 bytes", full)
	}
}

// P102: the type and the meaning of terms, for those that mean something and those that do not.
func TestExecuteOfMeanings(t *testing.T) {
	some, none := 0, 0
	for _, text := range append(someTerms(1500), "(bot (> (> b b) b))", "(lam f (> (> b b) b) tt)", "(fst (pair tt (bot (> (> b b) b))))") {
		script := "term " + text + "\ntype\nmean\n"
		if len(script) > 800 {
			continue
		}
		kind, ok := impl.LangType(text)
		element, fine := impl.LangMean(text)
		if !ok {
			t.Errorf("%s has no type", text)
		}
		counts := fmt.Sprintf("atoms %d elements 1", atomsOf(text))
		if fine {
			wantAnswers(t, script, "ok", kind, fmt.Sprint(element), counts)
			some++
		} else {
			wantAnswers(t, script, "ok", kind, "no", counts)
			none++
		}
	}
	if some < 1000 || none < 50 {
		t.Errorf("%d terms mean something, %d nothing", some, none)
	}
}

// P103: runs with no fuel, with too little, with just enough, with more, with 99 and with 100.
func TestExecuteOfRuns(t *testing.T) {
	some, none, long := 0, 0, 0
	counted := append(someTerms(1200), wrapped(30, "(if tt % ff)", "tt"), wrapped(50, "(if tt % ff)", "tt"), wrapped(51, "(if tt % ff)", "ff"))
	counted = append(counted, wrapped(42, "(app (lam x b x) %)", "tt"), "(app (fix f (> b b) (lam x b (if x (app f (if x ff tt)) ff))) tt)")
	for i, text := range counted {
		_, enough, ok := impl.LangRun(text, 99)
		for _, fuel := range []int{0, 1, 5, 9, 10, 98, 99, 100, enough - 1, enough, enough + 1, i % 100} {
			script := fmt.Sprintf("term %s\nrun %d\n", text, fuel)
			if fuel < 0 || len(script) > 800 {
				continue
			}
			counts := fmt.Sprintf("atoms %d elements 1", atomsOf(text))
			value, steps, ends := impl.LangRun(text, fuel)
			if !ends || fuel > 99 {
				wantAnswers(t, script, "ok", "no", counts)
				none++
				continue
			}
			wantAnswers(t, script, "ok", fmt.Sprint(value, " ", steps), counts)
			some++
			if steps > 20 {
				long++
			}
			if !ok || steps != enough {
				t.Errorf("%s runs %d steps, and %d with 99, %v", text, steps, enough, ok)
			}
		}
	}
	if some < 3000 || none < 3000 || long < 5 {
		t.Errorf("%d runs, %d of more than 20 steps, %d that fail", some, long, none)
	}
}

// P104: the size and the height of the stage 2 of shapes, and what is told of shapes of which one stage fails.
func TestExecuteOfShapes(t *testing.T) {
	some, none := 0, 0
	for _, shape := range append(smallShapes(4), someShapes(400)...) {
		one, ok := impl.ShapeStage(shape, 1)
		two, fine := impl.ShapeStage(shape, 2)
		var want []string
		switch {
		case ok && fine:
			want = []string{"ok", "ok", fmt.Sprintf("%d %d", len(two.Up), impl.OrderHeight(two)), fmt.Sprint("atoms 1 elements ", len(two.Up))}
			some++
		case ok:
			want = []string{"ok", "no", fmt.Sprintf("%d %d", len(one.Up), impl.OrderHeight(one)), fmt.Sprint("atoms 1 elements ", len(one.Up))}
			none++
		default:
			want = []string{"no", "no", "1 1", "atoms 1 elements 1"}
			none++
		}
		line := "shape " + shape + "\n"
		wantAnswers(t, line+line+"size\n", want...)
	}
	if some < 300 || none < 40 {
		t.Errorf("%d shapes with a stage 2, %d without", some, none)
	}
}

// P104: a shape is told of the domain that the lines ahead made, whatever it is.
func TestExecuteOfShapesOfShapes(t *testing.T) {
	shapes := []string{"(l x)", "(* x x)", "(+ u x)", "(> x b)", "(> u x)", "(> x (l u))", "u"}
	grown := 0
	for _, n := range []int{0, 1, 2, 6} {
		for _, a := range shapes {
			for _, b := range shapes {
				d, _ := impl.DomainFlat(n)
				script := fmt.Sprintf("flat %d\n", n)
				want := []string{"ok"}
				for _, s := range []string{a, b, a} {
					script += "shape " + s + "\nsize\n"
					next, ok := impl.ShapeDomain(s, d)
					if ok {
						d = next
						grown++
					}
					want = append(want, map[bool]string{true: "ok", false: "no"}[ok], fmt.Sprintf("%d %d", len(d.Up), impl.OrderHeight(d)))
				}
				wantAnswers(t, script, append(want, fmt.Sprint("atoms 1 elements ", len(d.Up)))...)
			}
		}
	}
	if grown < 300 {
		t.Errorf("%d shapes", grown)
	}
}

// P99, P102: the atoms of the term are counted behind all lines, of terms that were told, stepped and defined.
func TestExecuteCountsAtoms(t *testing.T) {
	for _, c := range []struct {
		script string
		atoms  int
	}{
		{"term ff\n", 1},
		{"term (bot b)\n", 2},
		{"term (bot (> b (* b b)))\n", 6},
		{"term (lam x b x)\n", 4},
		{"term (lam x123 (> b b) (app x123 tt))\n", 8},
		{"term (if tt (pair tt ff) (bot (* b b)))\n", 9},
		{"term (if tt (pair tt ff) (bot (* b b)))\nstep\n", 3},
		{"term (app (lam x b (pair x x)) (if tt tt ff))\n", 11},
		{"term (app (lam x b (pair x x)) (if tt tt ff))\nstep\n", 9},
		{"term (snd (fst (pair (pair tt ff) tt)))\n", 7},
		{"define 0\n", 2},
		{"define 1\n", 1},
		{"define 1\nterm x\nterm (por tt tt)x\n", 1},
		{"term (fix x b (por x x))\nstep\nstep\nstep\n", 55},
		{wrapped(1, "term %\n", anyOf(99)), 99},
	} {
		got := impl.Execute(c.script)
		if want := fmt.Sprintf("\natoms %d elements 1\n", c.atoms); !strings.HasSuffix(got, want) {
			t.Errorf("Execute(%q) = %q, want %q at the end", c.script, got, want)
		}
	}
}

// P100: a step whose result is no term fails, and the term stays.
func TestExecuteOfStepsThatGrow(t *testing.T) {
	for _, text := range []string{
		"(app (fix f (> b b) (lam x b (app f (por x x)))) tt)",
		"(fix x b (por x (por x ff)))",
		"(fix x b (if (if (if x tt tt) tt tt) tt tt))",
		"(fix x b " + wrapped(9, "(if % tt tt)", "x") + ")",
		"(fst (fix p (* b b) (pair (por (fst p) (fst p)) tt)))",
	} {
		script, want, ends := "term "+text+"\n", []string{"ok"}, false
		for len(script)+10 <= 800 {
			next, ok := impl.LangStep(text)
			if ok {
				text = next
			}
			ends = !ok
			script, want = script+"step\n", append(want, map[bool]string{true: "ok", false: "no"}[ok])
		}
		if !ends || atomsOf(text) < 100 {
			t.Errorf("%.60s has %d atoms at the end", text, atomsOf(text))
		}
		wantAnswers(t, script+"show\n", append(want, text, fmt.Sprintf("atoms %d elements 1", atomsOf(text)))...)
	}
}

// P99 to P104: no state is kept, and scripts are told the same in whatever order.
func TestExecuteKeepsNothing(t *testing.T) {
	all := scripts(400)
	var first []string
	for _, script := range all {
		first = append(first, impl.Execute(script))
	}
	for i, script := range slices.Backward(all) {
		impl.Execute("term (bot b)\nflat 9\nshape (l x)\n")
		wantOutput(t, script, first[i])
		wantOutput(t, "", "atoms 1 elements 1\n")
	}
}
