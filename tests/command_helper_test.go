package tests

import (
	"fmt"
	"regexp"
	"strconv"
	"strings"
	"testing"

	"loop.example/scottdomains/impl"
)

// console is a script's term and domain, by the document's sentences, and how often each word succeeded and failed.
type console struct {
	term   string
	domain impl.Order
	tally  map[string]int
}

// The words that are told no rest, and those that are told one.
var (
	aloneWords = []string{"step", "show", "type", "mean", "size", "funs"}
	restWords  = []string{"term", "run", "shape", "flat", "stages", "define"}
)

// The lines that are no other lines, and the numbers.
var (
	aloneLine = regexp.MustCompile(`^(` + strings.Join(aloneWords, "|") + `)$`)
	restLine  = regexp.MustCompile(`(?s)^(` + strings.Join(restWords, "|") + `) (.*)$`)
	numeral   = regexp.MustCompile(`^[0-9]{1,2}$`)
)

// newConsole returns what a script begins with.
func newConsole() *console {
	return &console{"tt", chain(1), map[string]int{}}
}

// output returns the output of a script.
func (c *console) output(script string) string {
	if len(script) > 800 {
		return "too long\n"
	}
	output := ""
	for end := strings.IndexByte(script, '\n'); end >= 0; end = strings.IndexByte(script, '\n') {
		output += c.answer(script[:end]) + "\n"
		script = script[end+1:]
	}
	return output + c.counts() + "\n"
}

// counts returns the line behind all others.
func (c *console) counts() string {
	return fmt.Sprintf("atoms %d elements %d", atomsOf(c.term), len(c.domain.Up))
}

// answer returns the output of a line.
func (c *console) answer(line string) string {
	var answer, word string
	var ok bool
	if parts := restLine.FindStringSubmatch(line); parts != nil {
		word = parts[1]
		answer, ok = c.withRest(word, parts[2])
	} else if aloneLine.MatchString(line) {
		word = line
		answer, ok = c.alone(word)
	} else {
		c.tally["what"]++
		return "what"
	}
	if !ok {
		c.tally[word+": no"]++
		return "no"
	}
	c.tally[word]++
	return answer
}

// alone returns the output of a word that is told no rest, and whether it succeeds.
func (c *console) alone(word string) (string, bool) {
	switch word {
	case "step":
		next, ok := impl.LangStep(c.term)
		if ok {
			c.term = next
		}
		return "ok", ok
	case "show":
		return c.term, true
	case "type":
		return impl.LangType(c.term)
	case "mean":
		element, ok := impl.LangMean(c.term)
		return fmt.Sprint(element), ok
	case "size":
		return fmt.Sprintf("%d %d", len(c.domain.Up), impl.OrderHeight(c.domain)), true
	}
	count := impl.FunCount(c.domain, c.domain)
	return fmt.Sprint(count), count != -1
}

// withRest returns the output of a word that is told a rest, and whether it succeeds.
func (c *console) withRest(word string, rest string) (string, bool) {
	number := numberIn(rest)
	switch word {
	case "term":
		_, ok := impl.LangType(rest)
		return c.become(rest, ok)
	case "run":
		value, steps, ok := impl.LangRun(c.term, number)
		return fmt.Sprintf("%s %d", value, steps), ok
	case "shape":
		return c.change(impl.ShapeDomain(rest, c.domain))
	case "flat":
		return c.change(impl.DomainFlat(number))
	case "stages":
		sizes, ok := impl.ShapeSizes(rest)
		return strings.Trim(fmt.Sprint(sizes), "[]"), ok
	}
	kind, _ := impl.LangType(c.term)
	return c.become(impl.ParallelTerm(kind, number))
}

// become takes a term if there is one.
func (c *console) become(term string, ok bool) (string, bool) {
	if ok {
		c.term = term
	}
	return "ok", ok
}

// change takes a domain if there is one.
func (c *console) change(d impl.Order, ok bool) (string, bool) {
	if ok {
		c.domain = d
	}
	return "ok", ok
}

// numberIn returns the number that a rest is, or -1.
func numberIn(rest string) int {
	if !numeral.MatchString(rest) {
		return -1
	}
	n, _ := strconv.Atoi(rest)
	return n
}

// lineMaker makes lines that depend on a seed alone.
type lineMaker struct {
	speaker
	terms, shapes []string
}

// newLineMaker returns a maker of lines with terms and shapes of which some are none.
func newLineMaker() *lineMaker {
	m := &lineMaker{}
	for i, text := range append(someTerms(400), noTerms()...) {
		if len(text) < 150 && (i%3 > 0 || i < 60) {
			m.terms = append(m.terms, text)
		}
	}
	m.terms = append(m.terms, "x", "(lam x b y)", "(app tt tt)", "(fst tt)", "(bot (> (> b b) b))", "(lam x b (lam y b (por x y)))", "(fix x b (por x (por x (por x ff))))")
	m.shapes = append(append(smallShapes(2), namedShapes()...), "(l x)", "(+ x x)", "(* x b)", "(> b x)", "", " ", "y", "(l y)", "(l  x)", "(l x) ", " x", "(l)", "x x", nested(12, "x"))
	return m
}

// line returns a line, mostly one of a word with what it is told.
func (m *lineMaker) line() string {
	number := m.choose(m.choose("0", "1", "2", "3", "4", "5"), strconv.Itoa(m.next(100)), strconv.Itoa(m.next(30)), "00", "07", "", "x", "-1", "+1", "100", "012", " 2", "2 ")
	switch m.next(9) {
	case 0, 1:
		return m.choose(aloneWords...)
	case 2:
		return "term " + m.choose(m.terms...)
	case 3:
		return m.choose("shape ", "shape ", "stages ") + m.choose(m.shapes...)
	case 4, 5:
		return m.choose("run ", "flat ", "define ") + number
	case 6:
		return m.choose("step", "run 40", "run 9", "mean", "funs", "size", "type")
	case 7:
		return m.choose("term (bot (> (> b b) b))", "term (if ff (fst (pair tt (bot (> (> b b) b)))) tt)", "flat 0", "flat 1", "flat 2", "flat 4", "shape (l x)", "shape (> x x)", "term (bot (> b b))", "term (bot (> b (> b b)))", "define 1", "define 10")
	}
	return m.choose(m.choose(aloneWords...)+" ", m.choose(restWords...), m.choose(aloneWords...)+" "+number, "", " ", "zzz", "no", "what", "\x00", "\xff", "step\r", "Step", " show", "term\ttt")
}

// script returns a script of so many lines.
func (m *lineMaker) script(lines int) string {
	script := ""
	for range lines {
		script += m.line() + "\n"
	}
	return script
}

// scripts returns so many scripts of complete lines, made from seeds; a few of them are too long.
func scripts(count int) []string {
	m := newLineMaker()
	all := []string{""}
	for seed := range count - 1 {
		m.seed = uint32(seed)*2654435761 + 17
		lines := 1 + seed%24
		if seed%40 == 7 {
			lines = 60
		}
		all = append(all, m.script(lines))
	}
	return all
}

// wantOutput fails if Execute of a script does not print what is wanted.
func wantOutput(t *testing.T, script string, want string) {
	t.Helper()
	if got := impl.Execute(script); got != want {
		t.Errorf("Execute(%.900q) = %.2000q, want %.2000q", script, got, want)
	}
}

// wantAnswers fails if Execute of a script does not print these lines.
func wantAnswers(t *testing.T, script string, want ...string) {
	t.Helper()
	wantOutput(t, script, strings.Join(want, "\n")+"\n")
}

// wantTranscript fails if Execute of all lines behind "> " does not print all other lines.
func wantTranscript(t *testing.T, transcript string) {
	t.Helper()
	script, want := "", ""
	for _, line := range strings.Split(strings.Trim(transcript, "\n"), "\n") {
		if asked, ok := strings.CutPrefix(line, "> "); ok {
			script += asked + "\n"
		} else {
			want += line + "\n"
		}
	}
	wantOutput(t, script, want)
}

// wantMore fails if Execute of a script with more lines behind it does not print the same for the script, then these answers, and then a last line: that of the script if the lines change nothing.
func wantMore(t *testing.T, script string, more string, answers ...string) {
	t.Helper()
	before := impl.Execute(script)
	start := strings.LastIndexByte(strings.TrimSuffix(before, "\n"), '\n') + 1
	wantOutput(t, script+more, before[:start]+strings.Join(answers, "\n")+"\n"+before[start:])
}
