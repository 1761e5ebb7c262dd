package tests

import (
	"fmt"
	"slices"
	"strings"
	"testing"

	"loop.example/scottdomains/impl"
)

// passage is a projection pair of one domain to another one, by the document's sentence.
type passage struct {
	name     string
	a, b     above
	up, down []int
}

// figure is a shape by its letter or sign and its parts.
type figure struct {
	head  string
	parts []figure
}

// stageList has the stages of a shape and the links between them, by the document's sentence.
type stageList struct {
	name   string
	stages []above
	links  []passage
}

// passes reports whether two lists are a projection pair of an order to another one.
func (a above) passes(b above, up []int, down []int) bool {
	if !a.monotone(b, up) || !b.monotone(a, down) {
		return false
	}
	for i := range a {
		if down[up[i]] != i {
			return false
		}
	}
	for k := range b {
		if !b[up[down[k]]][k] {
			return false
		}
	}
	return true
}

// passagesOf returns all projection pairs of one domain to another one, found among all pairs of monotone functions.
func passagesOf(s sample, r sample) []passage {
	h, back := homOf(s, r), homOf(r, s)
	var all []passage
	for _, up := range h.funs {
		for _, down := range back.funs {
			if h.a.passes(h.b, up, down) {
				all = append(all, passage{fmt.Sprint(h.name, " by ", up, " and ", down), h.a, h.b, up, down})
			}
		}
	}
	return all
}

// smallPassages returns all projection pairs of domains of at most three elements.
func smallPassages() []passage {
	var all []passage
	for _, s := range smallDomains(3) {
		for _, r := range smallDomains(3) {
			all = append(all, passagesOf(s, r)...)
		}
	}
	return all
}

// largerPassages returns some projection pairs of named domains, least elements with other numbers than 0 among them.
func largerPassages(t *testing.T) []passage {
	t.Helper()
	var all []passage
	for _, s := range namedDomains(t) {
		for _, r := range namedDomains(t) {
			if len(s.order.Up) > 5 || len(r.order.Up) > 5 || len(r.order.Up) < 4 {
				continue
			}
			found := passagesOf(s, r)
			for i := 0; i < len(found); i += 1 + len(found)/2 {
				all = append(all, found[i])
			}
		}
	}
	return all
}

// same returns the projection pair of an order to itself that changes nothing.
func (a above) same() passage {
	return passage{"nothing changed", a, a, identity(len(a)), identity(len(a))}
}

// doubled returns the projection pair of an order to its pairs with a chain of two elements, that takes the least one as the second part.
func (a above) doubled() passage {
	p := passage{name: "doubled", a: a, b: a.product(aboveOf(chain(2)))}
	for i := range a {
		p.up = append(p.up, 2*i)
		p.down = append(p.down, i, i)
	}
	return p
}

// then returns the projection pair that does one ahead of another one.
func (p passage) then(q passage) passage {
	both := passage{name: p.name + ", then " + q.name, a: p.a, b: q.b}
	for i := range p.a {
		both.up = append(both.up, q.up[p.up[i]])
	}
	for k := range q.b {
		both.down = append(both.down, p.down[q.down[k]])
	}
	return both
}

// d returns the first domain.
func (p passage) d() impl.Order {
	return p.a.order()
}

// e returns the second domain.
func (p passage) e() impl.Order {
	return p.b.order()
}

// figureOf returns the shape that a valid text is.
func figureOf(text string) figure {
	words := strings.Fields(strings.NewReplacer("(", " ( ", ")", " ) ").Replace(text))
	var read func() figure
	read = func() figure {
		word := words[0]
		words = words[1:]
		if word != "(" {
			return figure{head: word}
		}
		f := figure{head: words[0]}
		for words = words[1:]; words[0] != ")"; {
			f.parts = append(f.parts, read())
		}
		words = words[1:]
		return f
	}
	return read()
}

// functionsOf returns all monotone functions to an order, sorted: by the definition if the lists are few, and otherwise those of chapter 2.
func (a above) functionsOf(b above) ([][]int, bool) {
	lists := 1
	for range a {
		lists *= len(b)
		if lists > 2000 {
			return impl.DomainFuns(a.order(), b.order())
		}
	}
	found := a.functions(b)
	return found, len(found) <= impl.ElementsMax
}

// mapped returns the map of a shape for a projection pair, and whether no domain on the way has too many elements.
func (f figure) mapped(p passage) (passage, bool) {
	var parts []passage
	for _, part := range f.parts {
		q, ok := part.mapped(p)
		if !ok {
			return passage{}, false
		}
		parts = append(parts, q)
	}
	made, ok := p, true
	switch f.head {
	case "u":
		made = aboveOf(chain(1)).same()
	case "b":
		made = aboveOf(flat(2)).same()
	case "l":
		made, ok = parts[0].lift()
	case "*":
		made, ok = parts[0].times(parts[1])
	case "+":
		made, ok = parts[0].plus(parts[1])
	case ">":
		made, ok = parts[0].arrow(parts[1])
	}
	return made, ok
}

// lift returns the projection pair of lifts.
func (p passage) lift() (passage, bool) {
	if len(p.b)+1 > impl.ElementsMax {
		return passage{}, false
	}
	whole := passage{a: p.a.lift(), b: p.b.lift(), up: []int{0}, down: []int{0}}
	for _, k := range p.up {
		whole.up = append(whole.up, 1+k)
	}
	for _, i := range p.down {
		whole.down = append(whole.down, 1+i)
	}
	return whole, true
}

// times returns the projection pair of products.
func (p passage) times(q passage) (passage, bool) {
	if len(p.b)*len(q.b) > impl.ElementsMax {
		return passage{}, false
	}
	whole := passage{a: p.a.product(q.a), b: p.b.product(q.b)}
	for i := range whole.a {
		first, second := i/len(q.a), i%len(q.a)
		whole.up = append(whole.up, p.up[first]*len(q.b)+q.up[second])
	}
	for k := range whole.b {
		first, second := k/len(q.b), k%len(q.b)
		whole.down = append(whole.down, p.down[first]*len(q.a)+q.down[second])
	}
	return whole, true
}

// plus returns the projection pair of sums.
func (p passage) plus(q passage) (passage, bool) {
	if 1+len(p.b)+len(q.b) > impl.ElementsMax {
		return passage{}, false
	}
	whole := passage{a: p.a.sum(q.a), b: p.b.sum(q.b), up: []int{0}, down: []int{0}}
	for i := range p.a {
		whole.up = append(whole.up, 1+p.up[i])
	}
	for i := range q.a {
		whole.up = append(whole.up, 1+len(p.b)+q.up[i])
	}
	for k := range p.b {
		whole.down = append(whole.down, 1+p.down[k])
	}
	for k := range q.b {
		whole.down = append(whole.down, 1+len(p.a)+q.down[k])
	}
	return whole, true
}

// arrow returns the projection pair of function domains.
func (p passage) arrow(q passage) (passage, bool) {
	low, ok := p.a.functionsOf(q.a)
	high, fine := p.b.functionsOf(q.b)
	if !ok || !fine {
		return passage{}, false
	}
	whole := passage{a: q.a.pointwise(low), b: q.b.pointwise(high)}
	for _, f := range low {
		var g []int
		for k := range p.b {
			g = append(g, q.up[f[p.down[k]]])
		}
		whole.up = append(whole.up, slices.IndexFunc(high, func(h []int) bool { return slices.Equal(h, g) }))
	}
	for _, g := range high {
		var f []int
		for i := range p.a {
			f = append(f, q.down[g[p.up[i]]])
		}
		whole.down = append(whole.down, slices.IndexFunc(low, func(h []int) bool { return slices.Equal(h, f) }))
	}
	return whole, true
}

// stagesOf returns the stages of a shape and the links between them.
func stagesOf(text string) stageList {
	f, one := figureOf(text), aboveOf(chain(1))
	list := stageList{name: text, stages: []above{one}}
	first, ok := f.mapped(one.same())
	link := passage{a: one, b: first.b, down: repeated(0, len(first.b))}
	if ok {
		link.up = []int{first.b.least()}
	}
	for ok && len(list.links) < impl.StagesMax {
		list.links, list.stages = append(list.links, link), append(list.stages, link.b)
		link, ok = f.mapped(link)
	}
	return list
}

// rank returns the least number of a stage with an element that goes to an element of a stage.
func (l stageList) rank(n int, k int) int {
	for m := range n {
		for at := range l.stages[m] {
			for _, link := range l.links[m:n] {
				at = link.up[at]
			}
			if at == k {
				return m
			}
		}
	}
	return n
}

// isShape reports whether a text is a shape: it is one letter when again and again a sign with letters behind it becomes a letter.
func isShape(text string) bool {
	atoms := 0
	for _, c := range []byte(text) {
		if !strings.Contains("() ", string(c)) {
			atoms++
		}
	}
	letters := strings.NewReplacer("u", "x", "b", "x").Replace(text)
	smaller := strings.NewReplacer("(l x)", "x", "(* x x)", "x", "(+ x x)", "x", "(> x x)", "x")
	for {
		next := smaller.Replace(letters)
		if next == letters {
			return letters == "x" && atoms <= 12
		}
		letters = next
	}
}

// shapesOf returns all shapes of so many atoms.
func shapesOf(atoms int) []string {
	if atoms == 1 {
		return []string{"x", "u", "b"}
	}
	var all []string
	for _, s := range shapesOf(atoms - 1) {
		all = append(all, "(l "+s+")")
	}
	for first := 1; first < atoms-1; first++ {
		for _, s := range shapesOf(first) {
			for _, r := range shapesOf(atoms - 1 - first) {
				all = append(all, "(* "+s+" "+r+")", "(+ "+s+" "+r+")", "(> "+s+" "+r+")")
			}
		}
	}
	return all
}

// smallShapes returns all shapes of at most so many atoms.
func smallShapes(atoms int) []string {
	var all []string
	for n := 1; n <= atoms; n++ {
		all = append(all, shapesOf(n)...)
	}
	return all
}

// mixedShape returns a shape of so many atoms that depends on a seed alone.
func mixedShape(atoms int, seed uint32) string {
	next := func(limit int) int {
		seed = seed*1664525 + 1013904223
		return int(seed>>16) % limit
	}
	var made func(atoms int) string
	made = func(atoms int) string {
		if atoms == 1 {
			return []string{"x", "u", "b", "x", "u"}[next(5)]
		}
		if atoms == 2 || next(5) == 0 {
			return "(l " + made(atoms-1) + ")"
		}
		first := 1 + next(atoms-2)
		return "(" + []string{"*", "+", ">", ">"}[next(4)] + " " + made(first) + " " + made(atoms-1-first) + ")"
	}
	return made(atoms)
}

// namedShapes returns shapes with functions around functions, without x, and with as many atoms as there may be.
func namedShapes() []string {
	return []string{
		"x", "u", "b", "(l x)", "(l b)", "(* x x)", "(* b u)", "(+ x x)", "(+ u b)", "(> x x)", "(> b b)", "(> u x)", "(> x u)",
		"(> (> x b) b)", "(> x (> x b))", "(> (> x x) (> x x))", "(> (> x u) (> u x))", "(> (> (> x b) u) b)", "(> u (> u (> u x)))",
		"(> (l (> x b)) x)", "(> x (l (> b x)))", "(* (> x b) (> b x))", "(+ (> x x) (* x b))", "(> (* x b) u)", "(> (+ x u) x)", "(> (> (l u) x) x)",
		"(l (> x x))", "(+ b (> x x))", "(> (l x) (l x))", "(> (> (> (> (> x u) u) u) u) u)", "(> (> (> (> (> u x) u) x) u) x)",
		"(l (l (l (l (l (l (l (l (l (l (l x)))))))))))", "(* (+ x (> u b)) (* (l x) (+ u x)))", "(l (> (> x (> x u)) (+ x (> u x))))",
	}
}

// someShapes returns the named shapes, and some made from seeds, of 5 to 12 atoms.
func someShapes(count int) []string {
	all := namedShapes()
	for seed := range uint32(count) {
		all = append(all, mixedShape(5+int(seed%8), seed*7919+1))
	}
	return all
}

// wantPair fails if a function did not give the wanted two lists.
func wantPair(t *testing.T, what string, up []int, down []int, ok bool, want passage) {
	t.Helper()
	wantList(t, what+": up", up, ok, want.up)
	wantList(t, what+": down", down, ok, want.down)
}

// wantNoPair fails if a function gave two lists.
func wantNoPair(t *testing.T, what string, up []int, down []int, ok bool) {
	t.Helper()
	wantNoList(t, what+": up", up, ok)
	wantNoList(t, what+": down", down, ok)
}
