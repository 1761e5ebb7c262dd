package tests

import (
	"fmt"
	"testing"

	"loop.example/scottdomains/impl"
)

// P67: against the definition, for all lists of elements of domains of at most three.
func TestPairIs(t *testing.T) {
	some, none := 0, 0
	for _, s := range smallDomains(3) {
		for _, r := range smallDomains(3) {
			a, b := aboveOf(s.order), aboveOf(r.order)
			for _, up := range allLists(len(a), len(b)) {
				for _, down := range allLists(len(b), len(a)) {
					want := a.passes(b, up, down)
					if got := impl.PairIs(s.order, r.order, up, down); got != want {
						t.Errorf("%s to %s: PairIs of %v and %v = %v", s.name, r.name, up, down, got)
					}
					if want {
						some++
					} else {
						none++
					}
				}
			}
		}
	}
	if some < 50 || none < 5000 {
		t.Errorf("%d pairs, %d others", some, none)
	}
}

// P67: against the definition, for monotone functions of larger domains.
func TestPairIsOfNamedDomains(t *testing.T) {
	for _, s := range namedDomains(t) {
		for _, r := range namedDomains(t) {
			if len(s.order.Up) > 5 || len(r.order.Up) > 5 {
				continue
			}
			h, back := homOf(s, r), homOf(r, s)
			stride := 1 + len(h.funs)*len(back.funs)/400
			for at := 0; at < len(h.funs)*len(back.funs); at += stride {
				up, down := h.funs[at/len(back.funs)], back.funs[at%len(back.funs)]
				if got := impl.PairIs(h.d, h.e, up, down); got != h.a.passes(h.b, up, down) {
					t.Errorf("%s: PairIs of %v and %v = %v", h.name, up, down, got)
				}
			}
		}
	}
}

// P67: pairs that are known, and what fails in one of both ways alone.
func TestPairIsOfNamedLists(t *testing.T) {
	diamond := must(t, [][]int{{1, 2}, {3}, {3}, {}})
	turned := must(t, [][]int{{}, {0}, {0}, {1, 2}})
	for _, c := range []struct {
		name     string
		d, e     impl.Order
		up, down []int
		want     bool
	}{
		{"one element", chain(1), chain(1), []int{0}, []int{0}, true},
		{"one element to many", chain(1), flat(2), []int{0}, []int{0, 0, 0}, true},
		{"one element, but not to the least one", chain(1), chain(2), []int{1}, []int{0, 0}, false},
		{"one element to what is least with another number", chain(1), turned, []int{3}, []int{0, 0, 0, 0}, true},
		{"first ones of a chain", chain(2), chain(4), []int{0, 1}, []int{0, 1, 1, 1}, true},
		{"the greatest one of a chain", chain(2), chain(4), []int{0, 3}, []int{0, 0, 0, 1}, true},
		{"gives more from above", chain(2), chain(4), []int{0, 3}, []int{0, 0, 1, 1}, false},
		{"changes something from below", chain(2), chain(4), []int{0, 1}, []int{0, 0, 1, 1}, false},
		{"to fewer elements", chain(3), chain(2), []int{0, 1, 1}, []int{0, 1}, false},
		{"the other way round", chain(4), chain(2), []int{0, 1, 1, 1}, []int{0, 1}, false},
		{"up is not monotone", diamond, diamond, []int{0, 1, 3, 2}, []int{0, 1, 3, 2}, false},
		{"down is not monotone", chain(2), chain(3), []int{0, 1}, []int{0, 1, 0}, false},
		{"both exchanged", diamond, diamond, []int{0, 2, 1, 3}, []int{0, 2, 1, 3}, true},
		{"one of two", flat(1), flat(2), []int{0, 2}, []int{0, 0, 1}, true},
		{"both of two bounded ones", flat(2), diamond, []int{0, 1, 2}, []int{0, 1, 2, 1}, false},
		{"turned over", diamond, turned, []int{3, 1, 2, 0}, []int{3, 1, 2, 0}, true},
		{"to where the least one has another number", chain(2), fallingChain(3), []int{2, 1}, []int{1, 1, 0}, true},
		{"200 elements", chain(199), chain(200), identity(199), append(identity(199), 198), true},
		{"200 elements, one too great", chain(199), chain(200), identity(199), append(identity(199), 199), false},
	} {
		if got := impl.PairIs(c.d, c.e, c.up, c.down); got != c.want {
			t.Errorf("%s: PairIs = %v", c.name, got)
		}
	}
}

// P67: ProjectionOf of the first function is the second one, and both keep the least element.
func TestPairsAreProjections(t *testing.T) {
	for _, p := range append(smallPassages(), largerPassages(t)...) {
		down, ok := impl.ProjectionOf(p.d(), p.e(), p.up)
		wantList(t, p.name+": ProjectionOf", down, ok, p.down)
		if !impl.FunStrict(p.d(), p.e(), p.up) || !impl.FunStrict(p.e(), p.d(), p.down) {
			t.Errorf("%s: not strict", p.name)
		}
		around, ok := impl.FunAfter(p.d(), p.e(), p.d(), p.up, p.down)
		wantList(t, p.name+": from below", around, ok, identity(len(p.a)))
		above, ok := impl.FunAfter(p.e(), p.d(), p.e(), p.down, p.up)
		if !ok || !impl.FunBelow(p.e(), p.e(), above, identity(len(p.b))) {
			t.Errorf("%s: from above %v, %v", p.name, above, ok)
		}
	}
}

// P68: against the definition, for all pairs that meet.
func TestPairAfter(t *testing.T) {
	all := smallPassages()
	count := 0
	for _, p := range all {
		for _, q := range all {
			if !sameLists(p.e().Up, q.d().Up) {
				continue
			}
			count++
			up, down, ok := impl.PairAfter(p.d(), p.e(), q.e(), p.up, p.down, q.up, q.down)
			wantPair(t, p.name+", "+q.name+": PairAfter", up, down, ok, p.then(q))
			if !impl.PairIs(p.d(), q.e(), up, down) {
				t.Errorf("%s, %s: PairAfter is no pair", p.name, q.name)
			}
		}
	}
	if count < 100 {
		t.Errorf("%d pairs that meet", count)
	}
}

// P68: with the pair that changes nothing it is the same, ahead and behind.
func TestPairAfterNothing(t *testing.T) {
	for _, p := range append(smallPassages(), largerPassages(t)...) {
		a, b := p.a.same(), p.b.same()
		up, down, ok := impl.PairAfter(p.d(), p.d(), p.e(), a.up, a.down, p.up, p.down)
		wantPair(t, p.name+": PairAfter behind nothing", up, down, ok, p)
		up, down, ok = impl.PairAfter(p.d(), p.e(), p.e(), p.up, p.down, b.up, b.down)
		wantPair(t, p.name+": PairAfter ahead of nothing", up, down, ok, p)
	}
}

// P68: pairs one after the other that are known, of domains of three sizes.
func TestPairAfterOfNamedDomains(t *testing.T) {
	up, down, ok := impl.PairAfter(chain(2), chain(3), chain(5), []int{0, 2}, []int{0, 0, 1}, []int{0, 1, 3}, []int{0, 1, 1, 2, 2})
	wantPair(t, "chains", up, down, ok, passage{up: []int{0, 3}, down: []int{0, 0, 0, 1, 1}})
	up, down, ok = impl.PairAfter(chain(1), flat(1), flat(3), []int{0}, []int{0, 0}, []int{0, 2}, []int{0, 0, 1, 0})
	wantPair(t, "flat domains", up, down, ok, passage{up: []int{0}, down: []int{0, 0, 0, 0}})
	up, down, ok = impl.PairAfter(chain(198), chain(199), chain(200), identity(198), append(identity(198), 197), identity(199), append(identity(199), 198))
	wantPair(t, "200 elements", up, down, ok, passage{up: identity(198), down: append(identity(198), 197, 197)})
	up, down, ok = impl.PairAfter(chain(2), fallingChain(2), fallingChain(3), []int{1, 0}, []int{1, 0}, []int{1, 2}, []int{0, 0, 1})
	wantPair(t, "least elements with other numbers", up, down, ok, passage{up: []int{2, 1}, down: []int{1, 1, 0}})
	up, down, ok = impl.PairAfter(chain(2), fallingChain(2), chain(3), []int{1, 0}, []int{1, 0}, []int{2, 0}, []int{1, 1, 0})
	wantPair(t, "least elements with other numbers between", up, down, ok, passage{up: []int{0, 2}, down: []int{0, 0, 1}})
}

// P69: against the definition: the only list that fits is found, and none if none does.
func TestProjectionOf(t *testing.T) {
	some, none := 0, 0
	for _, h := range homs(t) {
		if len(h.a) > 5 || len(h.b) > 5 {
			continue
		}
		back := h.b.functions(h.a)
		for _, up := range h.funs {
			what := fmt.Sprint(h.name, ": ProjectionOf of ", up)
			var fits [][]int
			for _, down := range back {
				if h.a.passes(h.b, up, down) {
					fits = append(fits, down)
				}
			}
			got, ok := impl.ProjectionOf(h.d, h.e, up)
			if len(fits) == 0 {
				none++
				wantNoList(t, what, got, ok)
				continue
			}
			some++
			wantList(t, what, got, ok && len(fits) == 1, fits[0])
		}
	}
	if some < 100 || none < 500 {
		t.Errorf("%d functions with a projection, %d without", some, none)
	}
}

// P69: an element is below the projection of another one exactly if what it goes to is below this.
func TestProjectionOfTellsBelow(t *testing.T) {
	for _, h := range homs(t) {
		for _, up := range h.funs {
			down, ok := impl.ProjectionOf(h.d, h.e, up)
			if !ok {
				continue
			}
			if !impl.PairIs(h.d, h.e, up, down) {
				t.Errorf("%s: %v and its projection %v are no pair", h.name, up, down)
				continue
			}
			for i := range h.a {
				for k := range h.b {
					if h.a[i][down[k]] != h.b[up[i]][k] {
						t.Errorf("%s: %v and its projection %v differ for %d and %d", h.name, up, down, i, k)
					}
				}
			}
		}
	}
}

// P69: projections that are known, and monotone functions without one, by what is missing.
func TestProjectionOfNamedFunctions(t *testing.T) {
	diamond := must(t, [][]int{{1, 2}, {3}, {3}, {}})
	for _, c := range []struct {
		name string
		d, e impl.Order
		up   []int
		want []int
	}{
		{"one element", chain(1), chain(1), []int{0}, []int{0}},
		{"one element to a chain", chain(1), chain(3), []int{0}, []int{0, 0, 0}},
		{"flat of 1 to a chain", flat(1), chain(3), []int{0, 2}, []int{0, 0, 1}},
		{"with gaps", chain(3), chain(6), []int{0, 2, 4}, []int{0, 0, 1, 1, 2, 2}},
		{"the least one has the greatest number", chain(2), fallingChain(4), []int{3, 1}, []int{1, 1, 0, 0}},
		{"a side of a diamond", chain(2), diamond, []int{0, 2}, []int{0, 0, 1, 1}},
		{"one of three", flat(1), flat(3), []int{0, 2}, []int{0, 0, 1, 0}},
		{"200 elements", chain(2), chain(200), []int{0, 199}, append(repeated(0, 199), 1)},
		{"not strict", chain(1), chain(2), []int{1}, nil},
		{"not strict, of two", chain(2), chain(3), []int{1, 2}, nil},
		{"not one-to-one", chain(2), chain(2), []int{0, 0}, nil},
		{"not one-to-one above", chain(3), chain(3), []int{0, 2, 2}, nil},
		{"to one element", flat(2), chain(1), []int{0, 0, 0}, nil},
		{"bounded only where it goes to", flat(2), diamond, []int{0, 1, 2}, nil},
		{"below each other only where it goes to", diamond, chain(4), []int{0, 1, 2, 3}, nil},
		{"a sharper bound where it goes to", diamond, cube(3), []int{0, 1, 2, 7}, nil},
	} {
		got, ok := impl.ProjectionOf(c.d, c.e, c.up)
		if c.want == nil {
			wantNoList(t, c.name, got, ok)
			continue
		}
		wantList(t, c.name, got, ok, c.want)
	}
}
