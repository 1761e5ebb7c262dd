package tests

import (
	"fmt"
	"maps"
	"slices"
	"strings"
	"testing"

	"loop.example/scottdomains/impl"
)

// firstOrders has the first-order types, by the number of their arguments.
var firstOrders = []string{"b", "(> b b)", "(> b (> b b))"}

// firstOrderSizes has the number of elements of each first-order type.
var firstOrderSizes = []int{3, 11, 197}

// truthWords has a term for each element of the flat domain of 2.
var truthWords = []string{"(bot b)", "ff", "tt"}

// meaning is an element of a first-order type, as the document tells it: how many arguments it has, and its value for a list of so many.
type meaning struct {
	arity int
	has   func(list []int) int
}

// definable is a meaning with its type and its number.
type definable struct {
	meaning
	kind string
	k    int
}

// definables returns all elements of the first-order types.
func definables() []definable {
	s := senses{}
	var all []definable
	for arity, kind := range firstOrders {
		for k := range s.of(kind).order {
			all = append(all, definable{s.meaning(arity, k), kind, k})
		}
	}
	return all
}

// definablesOf returns all elements of the first-order type with so many arguments.
func definablesOf(arity int) []definable {
	return slices.DeleteFunc(definables(), func(d definable) bool { return d.arity != arity })
}

// meaning returns an element of the first-order type with so many arguments: they are taken one by one.
func (s senses) meaning(arity int, k int) meaning {
	return meaning{arity, func(list []int) int {
		kind, rest := firstOrders[arity], k
		for _, v := range list {
			rest, kind = s.of(kind).funs[rest][v], s.of(kind).to
		}
		return rest
	}}
}

// name returns how a failing test tells an element.
func (d definable) name() string {
	return fmt.Sprintf("%d of %s, %v", d.k, d.kind, d.values())
}

// lists returns all lists of arguments, ordered number by number.
func (r meaning) lists() [][]int {
	return allLists(r.arity, 3)
}

// values returns the values for all lists of arguments.
func (r meaning) values() []int {
	var values []int
	for _, list := range r.lists() {
		values = append(values, r.has(list))
	}
	return values
}

// ofLeast returns the value for the least elements.
func (r meaning) ofLeast() int {
	return r.has(repeated(0, r.arity))
}

// fixed returns the element that is fixed to a value for an argument.
func (r meaning) fixed(i int, v int) meaning {
	return meaning{r.arity - 1, func(list []int) int {
		return r.has(slices.Insert(slices.Clone(list), i, v))
	}}
}

// needs reports whether the value is the least element whenever an argument is it.
func (r meaning) needs(i int) bool {
	return !slices.ContainsFunc(r.lists(), func(list []int) bool { return list[i] == 0 && r.has(list) != 0 })
}

// firstAsked returns the first argument of which the document's sentence tells that the element is sequential, or -1 if there is none.
func (r meaning) firstAsked() int {
	for i := range r.arity {
		if r.needs(i) && r.fixed(i, 1).sequential() && r.fixed(i, 2).sequential() {
			return i
		}
	}
	return -1
}

// sequential reports whether the element is sequential, by the document's sentence.
func (r meaning) sequential() bool {
	return r.arity == 0 || r.ofLeast() != 0 || r.firstAsked() >= 0
}

// sequentialText returns the sequential term with some names, by the document's sentence.
func (r meaning) sequentialText(names []string) string {
	if r.arity == 0 || r.ofLeast() != 0 {
		return truthWords[r.ofLeast()]
	}
	i := r.firstAsked()
	rest := slices.Delete(slices.Clone(names), i, i+1)
	return "(if " + names[i] + " " + r.fixed(i, 2).sequentialText(rest) + " " + r.fixed(i, 1).sequentialText(rest) + ")"
}

// parallelText returns the parallel term with some names, by the document's sentence: its text with what the letters stand for put in.
func (r meaning) parallelText(names []string) string {
	if r.arity == 0 {
		return truthWords[r.ofLeast()]
	}
	m, n := r.fixed(0, 2).parallelText(names[1:]), r.fixed(0, 1).parallelText(names[1:])
	not := func(l string) string { return strings.Replace("(if L ff tt)", "L", l, 1) }
	and := func(l string, m string) string { return not("(por " + not(l) + " " + not(m) + ")") }
	return strings.NewReplacer(
		"NAME", names[0], "GUESS", r.fixed(0, 0).parallelText(names[1:]), "FIRST", and(names[0], m), "SECOND", and(not(names[0]), n), "BOTH", and(m, n),
	).Replace("(if (por (if NAME tt tt) (if GUESS tt tt)) (por (por FIRST SECOND) BOTH) (bot b))")
}

// closedText returns a term with the names of so many arguments, bound in it.
func closedText(arity int, text string) string {
	for _, name := range slices.Backward([]string{"x", "y"}[:arity]) {
		text = "(lam " + name + " b " + text + ")"
	}
	return text
}

// appliedText returns a term applied to terms for the numbers of a list.
func appliedText(text string, list []int) string {
	for _, v := range list {
		text = "(app " + text + " " + truthWords[v] + ")"
	}
	return text
}

// stable reports whether the element is a stable function of the product of a flat domain of 2 for each argument, by the document's sentence.
func (r meaning) stable() bool {
	pairs := aboveOf(chain(1))
	for range r.arity {
		pairs = pairs.product(aboveOf(flat(2)))
	}
	values, to := r.values(), aboveOf(flat(2))
	for i := range pairs {
		for k := range pairs {
			if pairs.bounded(i, k) && values[pairs.meet(i, k)] != to.meet(values[i], values[k]) {
				return false
			}
		}
	}
	return true
}

// firstApart returns the first list for which two elements of one type have different values, and whether there is one.
func (r meaning) firstApart(other meaning) ([]int, bool) {
	for _, list := range r.lists() {
		if r.has(list) != other.has(list) {
			return list, true
		}
	}
	return nil, false
}

// knownDefinable is an element that is known by hand: a term that means it, its values, and its sequential term, or nothing if it is not sequential.
type knownDefinable struct {
	text       string
	values     []int
	sequential string
}

// knownDefinables returns elements that are known by hand: all of one argument, and some of two that need the first argument, the second one, both and none.
func knownDefinables() []knownDefinable {
	one := func(body string, values ...int) knownDefinable {
		return knownDefinable{"(lam x b " + body + ")", values, "(lam x b " + body + ")"}
	}
	two := func(body string, sequential string, values ...int) knownDefinable {
		if sequential != "" {
			sequential = closedText(2, sequential)
		}
		return knownDefinable{closedText(2, body), values, sequential}
	}
	return []knownDefinable{
		{"(fix x b x)", []int{0}, "(bot b)"},
		{"(if tt ff tt)", []int{1}, "ff"},
		{"(por (bot b) tt)", []int{2}, "tt"},

		one("(if x (bot b) (bot b))", 0, 0, 0),
		one("(if x ff (bot b))", 0, 0, 1),
		one("(if x tt (bot b))", 0, 0, 2),
		one("(if x (bot b) ff)", 0, 1, 0),
		one("(if x ff ff)", 0, 1, 1),
		one("(if x tt ff)", 0, 1, 2),
		one("(if x (bot b) tt)", 0, 2, 0),
		one("(if x ff tt)", 0, 2, 1),
		one("(if x tt tt)", 0, 2, 2),
		one("ff", 1, 1, 1),
		one("tt", 2, 2, 2),

		two("(bot b)", "(if x (if y (bot b) (bot b)) (if y (bot b) (bot b)))", 0, 0, 0, 0, 0, 0, 0, 0, 0),
		two("ff", "ff", 1, 1, 1, 1, 1, 1, 1, 1, 1),
		two("(por y tt)", "tt", 2, 2, 2, 2, 2, 2, 2, 2, 2),

		two("x", "(if x tt ff)", 0, 0, 0, 1, 1, 1, 2, 2, 2),
		two("(if x tt tt)", "(if x tt tt)", 0, 0, 0, 2, 2, 2, 2, 2, 2),
		two("(if x tt y)", "(if x tt (if y tt ff))", 0, 0, 0, 0, 1, 2, 2, 2, 2),
		two("(if x y ff)", "(if x (if y tt ff) ff)", 0, 0, 0, 1, 1, 1, 0, 1, 2),
		two("(if x (bot b) ff)", "(if x (if y (bot b) (bot b)) ff)", 0, 0, 0, 1, 1, 1, 0, 0, 0),

		two("y", "(if y tt ff)", 0, 1, 2, 0, 1, 2, 0, 1, 2),
		two("(if y tt tt)", "(if y tt tt)", 0, 2, 2, 0, 2, 2, 0, 2, 2),
		two("(if y tt x)", "(if y tt (if x tt ff))", 0, 0, 2, 0, 1, 2, 0, 2, 2),
		two("(if y x ff)", "(if y (if x tt ff) ff)", 0, 1, 0, 0, 1, 1, 0, 1, 2),
		two("(if y ff (bot b))", "(if y ff (if x (bot b) (bot b)))", 0, 0, 1, 0, 0, 1, 0, 0, 1),

		two("(if x (if y tt ff) (if y ff tt))", "(if x (if y tt ff) (if y ff tt))", 0, 0, 0, 0, 2, 1, 0, 1, 2),
		two("(if y (if x ff tt) x)", "(if x (if y ff tt) (if y tt ff))", 0, 0, 0, 0, 1, 2, 0, 2, 1),
		two("(if y (if x tt (bot b)) (bot b))", "(if x (if y tt (bot b)) (if y (bot b) (bot b)))", 0, 0, 0, 0, 0, 0, 0, 0, 2),
		two("(if y (bot b) (if x (bot b) ff))", "(if x (if y (bot b) (bot b)) (if y (bot b) ff))", 0, 0, 0, 0, 1, 0, 0, 0, 0),
		two("(if (por x tt) (if y (if x ff ff) (if x ff ff)) tt)", "(if x (if y ff ff) (if y ff ff))", 0, 0, 0, 0, 1, 1, 0, 1, 1),

		two("(por x y)", "", 0, 0, 2, 0, 1, 2, 2, 2, 2),
		two("(if (por (if x ff tt) (if y ff tt)) ff tt)", "", 0, 1, 0, 1, 1, 1, 0, 1, 2),
		two("(if (por x y) ff (bot b))", "", 0, 0, 1, 0, 0, 1, 1, 1, 1),
		two("(por x (if y (bot b) tt))", "", 0, 2, 0, 0, 2, 0, 2, 2, 2),
		two("(por (if x tt tt) (if y tt tt))", "", 0, 2, 2, 2, 2, 2, 2, 2, 2),
	}
}

// plainBodies returns a term for each element of the type with two arguments that terms of x, y, tt, ff, bot and if mean, by its values.
func plainBodies() map[[9]int]string {
	bodies := map[[9]int]string{}
	var values [][9]int
	add := func(v [9]int, text string) {
		if _, has := bodies[v]; !has {
			bodies[v], values = text, append(values, v)
		}
	}
	add([9]int{0, 0, 0, 1, 1, 1, 2, 2, 2}, "x")
	add([9]int{0, 1, 2, 0, 1, 2, 0, 1, 2}, "y")
	add([9]int{}, "(bot b)")
	add([9]int{1, 1, 1, 1, 1, 1, 1, 1, 1}, "ff")
	add([9]int{2, 2, 2, 2, 2, 2, 2, 2, 2}, "tt")
	for more := 0; more < len(values); {
		more = len(values)
		for _, l := range values[:more] {
			for _, m := range values[:more] {
				for _, n := range values[:more] {
					var whole [9]int
					for i := range whole {
						whole[i] = []int{0, n[i], m[i]}[l[i]]
					}
					add(whole, "(if "+bodies[l]+" "+bodies[m]+" "+bodies[n]+")")
				}
			}
		}
	}
	return bodies
}

// definableTexts returns, for each element of the first-order type with so many arguments, terms that mean it: made from seeds, known, sequential and parallel ones.
func definableTexts(arity int) [][]string {
	texts := make([][]string, firstOrderSizes[arity])
	add := func(text string) {
		kind, _ := impl.LangType(text)
		if k, ok := impl.LangMean(text); ok && kind == firstOrders[arity] {
			texts[k] = append(texts[k], text)
		}
	}
	for _, d := range definablesOf(arity) {
		if d.sequential() {
			add(closedText(arity, d.sequentialText([]string{"x", "y"})))
		}
		add(closedText(arity, d.parallelText([]string{"x", "y"})))
	}
	for _, c := range knownDefinables() {
		add(c.text)
	}
	known := knownKinds()
	for seed := range 200 {
		s := speaker{uint32(seed)*104729 + 11, known}
		add(s.term(firstOrders[arity], 3+seed%19, map[string]string{}))
	}
	for _, text := range texts {
		slices.Sort(text)
	}
	return texts
}

// plainTerms returns terms without por of the first-order types: made from seeds, and fixed points of functions of two arguments.
func plainTerms(count int) []string {
	var all []string
	known := knownKinds()
	for seed := range count {
		s := speaker{uint32(seed)*15485863 + 29, known}
		arity := seed % 3
		names := map[string]string{"x": "b", "y": "b"}
		maps.DeleteFunc(names, func(name string, _ string) bool { return !slices.Contains([]string{"x", "y"}[:arity], name) })
		text := closedText(arity, s.term("b", 3+seed%29, names))
		if !strings.Contains(text, "por") {
			all = append(all, text)
		}
	}
	bodies := slices.Sorted(maps.Values(plainBodies()))
	for i, body := range bodies {
		other := bodies[(i*31+7)%len(bodies)]
		for _, form := range []string{"(if % (app (app f y) %) (app (app f ff) x))", "(if x % (app (app f %) y))", "(if (app (app f y) tt) x %)", "(if y % (app (app f (if x ff tt)) %))"} {
			text := strings.Replace(strings.Replace(form, "%", body, 1), "%", other, 1)
			all = append(all, "(fix f (> b (> b b)) "+closedText(2, text)+")")
		}
	}
	return all
}

// noFirstOrders returns texts that are no first-order types: other types, and texts that are no type.
func noFirstOrders() []string {
	others := slices.DeleteFunc(allTypes(), func(kind string) bool { return slices.Contains(firstOrders, kind) })
	return append(others,
		"", " ", "b ", " b", "B", "bb", "b b", "(b)", "()", "x", "tt", "ff", "(bot b)", "(lam x b x)", "\x00", "\xff", "b\n", "b\x00", "0", "1", "2", "first",
		"(> b b) ", " (> b b)", "(>  b b)", "(> b  b)", "( > b b)", "(> b b )", "(> b)", "(>)", "(> b b", "> b b", "> b b)", "(> b b b)", "(> b b))", "((> b b))", "(>b b)", "(> bb)", "(b > b)", "(-> b b)", "(> b b)(> b b)", "(> b b)\n",
		"(> b (> b b)) ", "(> b (> b b)", "(> b > b b)", "(> b (> b b) b)", "(> b(> b b))", "(> b  (> b b))", "(> (b) (> b b))", "(> b b b b)",
		"(> b (> b (> b (> b (> b b)))))", strings.Repeat("b", 5000), strings.Repeat("(> b ", 5000), strings.Repeat("(> b ", 5000)+"b"+strings.Repeat(")", 5000),
	)
}

// wantNoDefinable fails if some function of the chapter gives anything for a type and a number of which there is no element.
func wantNoDefinable(t *testing.T, kind string, k int) {
	t.Helper()
	what := fmt.Sprintf("%d of %.60q", k, kind)
	for _, list := range [][]int{nil, {}, {0}, {1}, {2, 2}, {0, 0}, {0, 1, 2}} {
		value, ok := impl.ElementValue(kind, k, list)
		wantNoIndex(t, fmt.Sprint(what, ": ElementValue for ", list), value, ok)
	}
	if impl.Sequential(kind, k) {
		t.Errorf("%s: Sequential", what)
	}
	text, ok := impl.SequentialTerm(kind, k)
	wantText(t, what+": SequentialTerm", text, ok, "", false)
	text, ok = impl.ParallelTerm(kind, k)
	wantText(t, what+": ParallelTerm", text, ok, "", false)
}

// wantNotApart fails if Separate or SeparateTerms gives anything for two texts, in whatever order.
func wantNotApart(t *testing.T, a string, b string) {
	t.Helper()
	for _, c := range [][2]string{{a, b}, {b, a}} {
		what := fmt.Sprintf("%.60q and %.60q", c[0], c[1])
		list, ok := impl.Separate(c[0], c[1])
		wantNoList(t, what+": Separate", list, ok)
		first, second, ok := impl.SeparateTerms(c[0], c[1])
		wantText(t, what+": SeparateTerms, the first one", first, ok, "", false)
		wantText(t, what+": SeparateTerms, the second one", second, ok, "", false)
	}
}
