package tests

import (
	"fmt"
	"strings"
	"testing"

	"loop.example/scottdomains/impl"
)

// P90, P91: against the definition, for all elements.
func TestSequentialTerm(t *testing.T) {
	some, none := 0, 0
	for _, d := range definables() {
		got, ok := impl.SequentialTerm(d.kind, d.k)
		if d.sequential() {
			some++
			wantText(t, d.name()+": SequentialTerm", got, ok, closedText(d.arity, d.sequentialText([]string{"x", "y"})), true)
		} else {
			none++
			wantText(t, d.name()+": SequentialTerm", got, ok, "", false)
		}
	}
	if some != 3+11+163 || none != 34 {
		t.Errorf("%d terms, %d elements without one", some, none)
	}
}

// P90, P91: a term of the type, without por, that means the element, just if Sequential holds.
func TestSequentialTermMeansTheElement(t *testing.T) {
	for _, d := range definables() {
		text, ok := impl.SequentialTerm(d.kind, d.k)
		if ok != impl.Sequential(d.kind, d.k) {
			t.Errorf("%s: SequentialTerm is there: %v", d.name(), ok)
		}
		if ok {
			wantMeans(t, d, text)
			if !impl.LangPlain(text) || strings.Contains(text, "por") {
				t.Errorf("%s: %s is not plain", d.name(), text)
			}
		}
	}
}

// wantMeans fails if a text is no term of the type of an element that means it.
func wantMeans(t *testing.T, d definable, text string) {
	t.Helper()
	kind, ok := impl.LangType(text)
	wantText(t, "the type of "+text, kind, ok && isTerm(text), d.kind, true)
	k, ok := impl.LangMean(text)
	wantIndex(t, text, k, ok, d.k)
}

// P92: against the definition, for all elements, those that are not sequential among them.
func TestParallelTerm(t *testing.T) {
	for _, d := range definables() {
		got, ok := impl.ParallelTerm(d.kind, d.k)
		wantText(t, d.name()+": ParallelTerm", got, ok, closedText(d.arity, d.parallelText([]string{"x", "y"})), true)
	}
}

// P92: a term of the type that means the element.
func TestParallelTermMeansTheElement(t *testing.T) {
	atoms := [3]int{}
	for _, d := range definables() {
		text, _ := impl.ParallelTerm(d.kind, d.k)
		wantMeans(t, d, text)
		atoms[d.arity] = max(atoms[d.arity], atomsOf(text))
	}
	if atoms != [3]int{2, 61, 344} {
		t.Errorf("%v atoms", atoms)
	}
}

// P92: terms that are known by hand.
func TestParallelTermOfNamedElements(t *testing.T) {
	for _, c := range []struct {
		kind string
		k    int
		want string
	}{
		{"b", 0, "(bot b)"},
		{"b", 1, "ff"},
		{"b", 2, "tt"},
		{"(> b b)", 5, "(lam x b (if (por (if x tt tt) (if (bot b) tt tt)) (por (por (if (por (if x ff tt) (if tt ff tt)) ff tt) (if (por (if (if x ff tt) ff tt) (if ff ff tt)) ff tt)) (if (por (if tt ff tt) (if ff ff tt)) ff tt)) (bot b)))"},
		{"(> b b)", 1, "(lam x b (if (por (if x tt tt) (if (bot b) tt tt)) (por (por (if (por (if x ff tt) (if ff ff tt)) ff tt) (if (por (if (if x ff tt) ff tt) (if (bot b) ff tt)) ff tt)) (if (por (if ff ff tt) (if (bot b) ff tt)) ff tt)) (bot b)))"},
		{"(> b b)", 10, "(lam x b (if (por (if x tt tt) (if tt tt tt)) (por (por (if (por (if x ff tt) (if tt ff tt)) ff tt) (if (por (if (if x ff tt) ff tt) (if tt ff tt)) ff tt)) (if (por (if tt ff tt) (if tt ff tt)) ff tt)) (bot b)))"},
	} {
		got, ok := impl.ParallelTerm(c.kind, c.k)
		wantText(t, fmt.Sprint("ParallelTerm of ", c.k, " of ", c.kind), got, ok, c.want, true)
	}
}

// wantRunTells fails if a term applied to terms for a list does not run to what a value tells: with all the fuel, with just enough, not with one step less, and not at all for 0.
func wantRunTells(t *testing.T, text string, list []int, value int) {
	t.Helper()
	text = appliedText(text, list)
	got, steps, ok := impl.LangRun(text, impl.FuelMax)
	if value == 0 {
		wantText(t, text, got, ok, "", false)
		return
	}
	wantText(t, text, got, ok, truthWords[value], true)
	got, again, ok := impl.LangRun(text, steps)
	wantText(t, text+" with just enough", got, ok && again == steps, truthWords[value], true)
	if steps > 0 {
		wantNoRun(t, text+" with one step less", text, steps-1)
	}
	for _, fuel := range []int{0, steps / 2} {
		if fuel < steps {
			wantNoRun(t, text+" with less", text, fuel)
		}
	}
}

// P92, P93: the parallel terms of all elements, applied to all lists, but to just some of those that give no value, as this takes all the fuel.
func TestParallelTermRuns(t *testing.T) {
	none := 0
	for _, d := range definables() {
		text, _ := impl.ParallelTerm(d.kind, d.k)
		for i, list := range d.lists() {
			value := d.has(list)
			last := d.arity == 2 && i == 7 // tt and ff, as the promise tells
			if value > 0 || last || d.arity < 2 || (d.k*9+i)%29 == 0 {
				wantRunTells(t, text, list, value)
			}
			if last && value == 0 {
				none++
			}
		}
	}
	if none < 20 {
		t.Errorf("%d elements have no value for tt and ff", none)
	}
}

// P91: the sequential terms of elements, applied to lists.
func TestSequentialTermRuns(t *testing.T) {
	for _, d := range definables() {
		text, ok := impl.SequentialTerm(d.kind, d.k)
		if !ok {
			continue
		}
		for i, list := range d.lists() {
			if value := d.has(list); value > 0 || (d.k+i)%7 == 0 {
				wantRunTells(t, text, list, value)
			}
		}
	}
}
