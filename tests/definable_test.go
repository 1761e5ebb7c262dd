package tests

import (
	"fmt"
	"slices"
	"testing"

	"loop.example/scottdomains/impl"
)

// P89: against the definition, for all elements and all lists.
func TestElementValue(t *testing.T) {
	count := 0
	for _, d := range definables() {
		for _, list := range d.lists() {
			got, ok := impl.ElementValue(d.kind, d.k, list)
			wantIndex(t, fmt.Sprint(d.name(), ": ElementValue for ", list), got, ok, d.has(list))
			count++
		}
	}
	if count != 3+11*3+197*9 {
		t.Errorf("%d values", count)
	}
}

// P89: a value is from 0 to 2, for the least elements it is 0 or the same, and for more it is not less.
func TestElementValueGrows(t *testing.T) {
	for _, d := range definables() {
		least, _ := impl.ElementValue(d.kind, d.k, repeated(0, d.arity))
		for _, list := range d.lists() {
			value, ok := impl.ElementValue(d.kind, d.k, list)
			if !ok || value < 0 || value > 2 || least != 0 && value != least {
				t.Errorf("%s: ElementValue for %v = %d, %v, for the least elements %d", d.name(), list, value, ok, least)
			}
			for i := range list {
				less := slices.Clone(list)
				less[i] = 0
				if below, _ := impl.ElementValue(d.kind, d.k, less); below != 0 && below != value {
					t.Errorf("%s: ElementValue for %v = %d, but for %v = %d", d.name(), less, below, list, value)
				}
			}
		}
	}
}

// P89: what a term means that is applied to terms of the list.
func TestElementValueOfTerms(t *testing.T) {
	for arity, kind := range firstOrders {
		for k, texts := range definableTexts(arity) {
			text := texts[k%len(texts)]
			for _, list := range allLists(arity, 3) {
				want, ok := impl.LangMean(appliedText(text, list))
				got, fine := impl.ElementValue(kind, k, list)
				wantIndex(t, fmt.Sprint(text, " for ", list), got, ok && fine, want)
			}
		}
	}
}

// P89, P90: elements that are known by hand, those that need both arguments among them.
func TestKnownDefinables(t *testing.T) {
	alone := [4]int{}
	for _, c := range knownDefinables() {
		kind, _ := impl.LangType(c.text)
		k, ok := impl.LangMean(c.text)
		arity := slices.Index(firstOrders, kind)
		if !ok || arity < 0 {
			t.Fatalf("%s means %d of %s", c.text, k, kind)
		}
		for i, list := range allLists(arity, 3) {
			got, ok := impl.ElementValue(kind, k, list)
			wantIndex(t, fmt.Sprint(c.text, " for ", list), got, ok, c.values[i])
		}
		if impl.Sequential(kind, k) != (c.sequential != "") {
			t.Errorf("%s: Sequential is not %v", c.text, c.sequential != "")
		}
		got, ok := impl.SequentialTerm(kind, k)
		wantText(t, "SequentialTerm of "+c.text, got, ok, c.sequential, c.sequential != "")
		if r := (senses{}).meaning(arity, k); arity == 2 && r.ofLeast() == 0 {
			needed := 0
			for i := range 2 {
				if r.needs(i) {
					needed += 1 + i
				}
			}
			alone[needed]++
		}
	}
	if slices.Min(alone[:]) < 5 {
		t.Errorf("%v elements need none, the first, the second and both", alone)
	}
}

// P90: against the definition, for all elements.
func TestSequential(t *testing.T) {
	for _, d := range definables() {
		if got := impl.Sequential(d.kind, d.k); got != d.sequential() {
			t.Errorf("%s: Sequential = %v", d.name(), got)
		}
	}
}

// P90, P94: the elements that terms of names, tt, ff, bot and if mean are just the sequential ones.
func TestSequentialIsPlain(t *testing.T) {
	met := map[int]bool{}
	bodies := plainBodies()
	for _, body := range bodies {
		text := closedText(2, body)
		k, ok := impl.LangMean(text)
		if !ok || !impl.LangPlain(text) || !impl.Sequential(firstOrders[2], k) {
			t.Errorf("%s means %d, %v, which is not sequential", text, k, ok)
		}
		met[k] = true
	}
	for k := range firstOrderSizes[2] {
		if impl.Sequential(firstOrders[2], k) != met[k] {
			t.Errorf("Sequential of %d = %v", k, !met[k])
		}
	}
	if len(met) != len(bodies) || len(met) != 163 {
		t.Errorf("%d terms mean %d elements", len(bodies), len(met))
	}
}

// P94: what plain terms mean is sequential: terms with all forms but por, fix and functions applied among them.
func TestPlainTermsAreSequential(t *testing.T) {
	count, fixes, met := 0, 0, map[[2]int]bool{}
	var named []string
	for _, c := range namedTerms() {
		named = append(named, c.text)
	}
	for _, text := range append(plainTerms(6000), named...) {
		kind, _ := impl.LangType(text)
		k, ok := impl.LangMean(text)
		arity := slices.Index(firstOrders, kind)
		if !ok || arity < 0 || !impl.LangPlain(text) {
			continue
		}
		count++
		met[[2]int{arity, k}] = true
		if phraseOf(text).has("fix") {
			fixes++
		}
		if !impl.Sequential(kind, k) {
			t.Errorf("%s means %d, which is not sequential", text, k)
		}
	}
	if count < 2000 || fixes < 1000 || len(met) < 90 {
		t.Errorf("%d terms, %d with fix, mean %d elements", count, fixes, len(met))
	}
}

// P95, P98: against the definitions, and numbers that are known.
func TestCounts(t *testing.T) {
	for arity, kind := range firstOrders {
		sequential, stable, all := 0, 0, definablesOf(arity)
		for _, d := range all {
			if d.sequential() {
				sequential++
			}
			if d.stable() {
				stable++
			}
		}
		if got := impl.SequentialCount(kind); got != sequential || got != []int{3, 11, 163}[arity] {
			t.Errorf("SequentialCount of %s = %d, want %d", kind, got, sequential)
		}
		if got := impl.StableCount(kind); got != stable || got != []int{3, 11, 163}[arity] {
			t.Errorf("StableCount of %s = %d, want %d", kind, got, stable)
		}
		d, _ := impl.LangDomain(kind)
		if n, m := impl.SequentialCount(kind), impl.StableCount(kind); n > m || m > len(d.Up) || arity < 2 && n != len(d.Up) || len(d.Up) != len(all) {
			t.Errorf("%s: %d sequential and %d stable of %d", kind, n, m, len(d.Up))
		}
	}
}

// P95, P98: as many as FunStable of chapter 3 tells, for functions of no argument, of one and of pairs.
func TestStableCountOfFunctions(t *testing.T) {
	from := chain(1)
	for arity, kind := range firstOrders {
		count := 0
		for _, d := range definablesOf(arity) {
			if impl.FunStable(from, flat(2), d.values()) {
				count++
			}
		}
		if got := impl.StableCount(kind); got != count {
			t.Errorf("StableCount of %s = %d, want %d", kind, got, count)
		}
		from, _ = impl.DomainProduct(from, flat(2))
	}
	if got, want := impl.StableCount("(> b b)"), impl.FunCount(flat(2), flat(2)); got != want {
		t.Errorf("StableCount of one argument = %d, want %d", got, want)
	}
}
