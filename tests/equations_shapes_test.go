package tests

import (
	"fmt"
	"slices"
	"strings"
	"testing"

	"loop.example/scottdomains/impl"
)

// nested returns a shape with so many lifts around a letter.
func nested(lifts int, letter string) string {
	return strings.Repeat("(l ", lifts) + letter + strings.Repeat(")", lifts)
}

// P70, P71: all texts of at most five bytes of those that stand in shapes.
func TestShapeValidOfShortTexts(t *testing.T) {
	texts, some := []string{""}, 0
	for range 6 {
		var longer []string
		for _, s := range texts {
			want := isShape(s)
			if got := impl.ShapeValid(s); got != want {
				t.Errorf("ShapeValid(%q) = %v", s, got)
			}
			if want {
				some++
			}
			for _, c := range "xubl*+>() " {
				longer = append(longer, s+string(c))
			}
		}
		texts = longer
	}
	if some != 6 { // the letters, and their lifts
		t.Errorf("%d shapes of at most five bytes", some)
	}
}

// P70, P71: shapes, and what they become when one byte is left out, changed or added.
func TestShapeValidOfChangedTexts(t *testing.T) {
	bytes := []string{"", "x", "u", "b", "l", "*", "+", ">", "(", ")", " ", "  ", "\t", "\n", "\x00", "X", "y", "-", "\xff", "(l x)", "×"}
	some, none := 0, 0
	for _, s := range append(smallShapes(3), someShapes(60)...) {
		if !impl.ShapeValid(s) || !isShape(s) {
			t.Errorf("ShapeValid(%q) does not hold", s)
		}
		for at := range len(s) + 1 {
			for _, c := range bytes {
				changed := []string{s[:at] + c + s[at:]}
				if at < len(s) {
					changed = append(changed, s[:at]+c+s[at+1:])
				}
				for _, text := range changed {
					want := isShape(text)
					if got := impl.ShapeValid(text); got != want {
						t.Errorf("ShapeValid(%q) = %v", text, got)
					}
					if want {
						some++
					} else {
						none++
					}
				}
			}
		}
	}
	if some < 1000 || none < 10000 {
		t.Errorf("%d shapes, %d others", some, none)
	}
}

// P70, P71: just 12 atoms, and 13 and more; parentheses and spaces are none.
func TestShapeValidAtTheLimit(t *testing.T) {
	for _, c := range []struct {
		name, shape string
		want        bool
	}{
		{"12 in lifts", nested(11, "x"), true},
		{"13 in lifts", nested(12, "x"), false},
		{"14 in lifts", nested(13, "x"), false},
		{"100 in lifts", nested(99, "u"), false},
		{"100000 in lifts", nested(100000, "u"), false},
		{"100000 signs alone", strings.Repeat("(> ", 100000), false},
		{"100000 parentheses", strings.Repeat("(", 100000), false},
		{"100000 letters", strings.Repeat("x", 100000), false},
		{"11 in pairs", "(* (* x x) (* (* x x) (* x x)))", true},
		{"12 in pairs and a lift", "(l (* (* x x) (* (* x x) (* x x))))", true},
		{"13 in pairs", "(* (* x x) (* (* x x) (* (* x x) x)))", false},
		{"12 in functions", "(> (> (> x x) (> x x)) (> (l x) x))", true},
		{"13 in functions", "(> (> (> x x) (> x x)) (> (l x) (l x)))", false},
		{"11 in functions to the left", "(> (> (> (> (> x x) x) x) x) x)", true},
		{"11 in functions to the right", "(> x (> x (> x (> x (> x x)))))", true},
		{"13 in functions to the left", "(> (> (> (> (> (> x x) x) x) x) x) x)", false},
		{"13 in functions to the right", "(> x (> x (> x (> x (> x (> x x))))))", false},
		{"12 in sums", "(+ (l u) (+ b (+ x (+ u (+ b x)))))", true},
		{"13 in sums", "(+ (l u) (+ (l b) (+ x (+ u (+ b x)))))", false},
		{"12 without x", "(+ (l u) (+ b (+ u (+ u (+ b b)))))", true},
	} {
		if got := impl.ShapeValid(c.shape); got != c.want || len(c.shape) < 1000 && got != isShape(c.shape) {
			t.Errorf("%s: ShapeValid = %v", c.name, got)
		}
	}
}

// P71: against the definition, for all shapes of at most four atoms and all domains of at most three elements.
func TestShapeDomainOfSmallShapes(t *testing.T) {
	for _, s := range smallShapes(4) {
		f := figureOf(s)
		for _, x := range smallDomains(3) {
			wantShape(t, s+" for "+x.name, s, f, x.order)
		}
	}
}

// wantShape fails if the domain of a shape for a domain is not that of the document's sentence.
func wantShape(t *testing.T, what string, s string, f figure, x impl.Order) bool {
	t.Helper()
	want, ok := f.mapped(aboveOf(x).same())
	got, fine := impl.ShapeDomain(s, x)
	if !ok {
		wantNoOrder(t, what+": ShapeDomain", got, fine)
	} else {
		wantOrder(t, what+": ShapeDomain", got, fine, want.b.order())
	}
	return ok
}

// P71: against the definition, for larger shapes and domains, with functions around functions and too many elements on the way.
func TestShapeDomainOfLargerShapes(t *testing.T) {
	some, none := 0, 0
	for _, s := range someShapes(200) {
		f := figureOf(s)
		for _, x := range namedDomains(t)[:11] {
			if wantShape(t, s+" for "+x.name, s, f, x.order) {
				some++
			} else {
				none++
			}
		}
	}
	if some < 500 || none < 500 {
		t.Errorf("%d domains, %d failed", some, none)
	}
}

// P71: a letter and each sign is the construction of chapter 2, whatever the parts are.
func TestShapeDomainIsConstructed(t *testing.T) {
	for _, f := range smallShapes(3) {
		for i, g := range smallShapes(3) {
			x := smallDomains(3)[(i+len(f))%12].order
			left, fits := impl.ShapeDomain(f, x)
			right, fine := impl.ShapeDomain(g, x)
			if !fits || !fine {
				t.Errorf("%s or %s has no domain", f, g)
				continue
			}
			for sign, made := range map[string]func(d impl.Order, e impl.Order) (impl.Order, bool){
				"*": impl.DomainProduct, "+": impl.DomainSum, ">": impl.DomainFun,
			} {
				want, ok := made(left, right)
				shape := "(" + sign + " " + f + " " + g + ")"
				got, fine := impl.ShapeDomain(shape, x)
				if ok != fine || !sameLists(got.Up, want.Up) {
					t.Errorf("%s for %v: ShapeDomain = %v, %v, want %v, %v", shape, x.Up, got.Up, fine, want.Up, ok)
				}
			}
		}
	}
}

// P71: that of the lift of the shape is DomainLift of it, if it has not too many atoms or elements.
func TestShapeDomainOfLifts(t *testing.T) {
	for _, s := range append(someShapes(100), nested(10, "x")) {
		for _, x := range []impl.Order{chain(1), flat(2), must(t, [][]int{{}, {}, {0, 1}}), chain(199), chain(200)} {
			d, ok := impl.ShapeDomain(s, x)
			want, fine := impl.DomainLift(d)
			got, fits := impl.ShapeDomain("(l "+s+")", x)
			if !ok || !fine || !isShape("(l "+s+")") {
				wantNoOrder(t, s+" lifted", got, fits)
				continue
			}
			wantOrder(t, s+" lifted", got, fits, want)
		}
	}
}

// P71: domains that are known, the least one with another number than 0 among them.
func TestShapeDomainOfNamedDomains(t *testing.T) {
	turned := must(t, [][]int{{}, {0}, {0}, {1, 2}})
	for _, c := range []struct {
		shape string
		x     impl.Order
		want  impl.Order
	}{
		{"x", turned, turned},
		{"x", chain(200), chain(200)},
		{"u", turned, chain(1)},
		{"b", turned, flat(2)},
		{"u", chain(200), chain(1)},
		{"b", flat(199), flat(2)},
		{"(l x)", chain(3), chain(4)},
		{"(l x)", fallingChain(2), must(t, [][]int{{2}, {}, {1}})},
		{"(l (l u))", flat(5), chain(3)},
		{"(* x u)", turned, turned},
		{"(* u x)", turned, turned},
		{"(* x x)", chain(2), must(t, [][]int{{1, 2}, {3}, {3}, {}})},
		{"(* (l u) b)", chain(1), must(t, [][]int{{1, 2, 3}, {4}, {5}, {4, 5}, {}, {}})},
		{"(+ u u)", chain(1), flat(2)},
		{"(+ u x)", chain(2), must(t, [][]int{{1, 2}, {}, {3}, {}})},
		{"(+ x u)", chain(2), must(t, [][]int{{1, 3}, {2}, {}, {}})},
		{"(> u x)", turned, turned},
		{"(> x u)", turned, chain(1)},
		{"(> x x)", chain(2), chain(3)},
		{"(> x b)", flat(1), must(t, [][]int{{1, 2}, {3}, {4}, {}, {}})},
		{"(> (> x u) x)", turned, turned},
		{"(> (> x x) x)", chain(2), chain(4)},
		{"(> x (> x x))", chain(2), must(t, [][]int{{1}, {2, 3}, {4}, {4}, {5}, {}})},
		{"(> x x)", fallingChain(2), must(t, [][]int{{}, {0}, {1}})},
		{"(> x u)", chain(200), chain(1)},
		{"(> (l u) x)", chain(2), chain(3)},
	} {
		got, ok := impl.ShapeDomain(c.shape, c.x)
		wantOrder(t, c.shape+": ShapeDomain", got, ok, c.want)
	}
}

// P71: just ElementsMax elements, and more, also on the way only.
func TestShapeDomainLimit(t *testing.T) {
	wide := nested(3, "(> b (> b b))") // of 200 elements
	for _, c := range []struct {
		name, shape string
		x           impl.Order
		want        int
	}{
		{"lift of 199", "(l x)", chain(199), 200},
		{"lift of 200", "(l x)", chain(200), -1},
		{"product of 200", "(* x (l (l (l u))))", chain(50), 200},
		{"product of 204", "(* x (l (l (l u))))", flat(50), -1},
		{"product of 200 and 1", "(* x u)", flat(199), 200},
		{"sum of 200", "(+ x x)", flat(98), 199},
		{"sum of 198 and 1", "(+ u x)", flat(197), 200},
		{"sum of 199 and 1", "(+ u x)", flat(198), -1},
		{"sum of 200 and 1", "(+ x u)", flat(199), -1},
		{"200 functions", "(> x (l u))", chain(199), 200},
		{"201 functions", "(> x (l u))", chain(200), -1},
		{"functions around functions", wide, chain(1), 200},
		{"functions around functions, one more", nested(1, wide), chain(1), -1},
		{"functions to one element, 200 on the way", "(> " + wide + " u)", chain(1), 1},
		{"functions to one element, 201 on the way", "(> (l " + wide + ") u)", chain(1), -1},
		{"functions of 201 to one element", "(> (l x) u)", chain(200), -1},
		{"functions of one element to 201", "(> u (l x))", chain(200), -1},
		{"functions of functions to one element", "(> (> (> x u) x) u)", chain(200), 1},
		{"functions of functions to one element, 201 on the way", "(> (> (> x (l u)) u) u)", chain(200), -1},
		{"functions to one element in both places", "(> (> x u) (> x u))", chain(200), 1},
		{"a lift on the way of a pair", "(* u (> (l x) u))", chain(200), -1},
		{"without x", "(> b b)", chain(200), 11},
	} {
		got, ok := impl.ShapeDomain(c.shape, c.x)
		if c.want < 0 {
			wantNoOrder(t, c.name, got, ok)
		} else if !ok || len(got.Up) != c.want || !impl.DomainIs(got) {
			t.Errorf("%s: ShapeDomain has %d elements, %v, want %d", c.name, len(got.Up), ok, c.want)
		}
	}
}

// P72: against the definition, for all shapes of at most three atoms and all pairs of domains of at most three elements.
func TestShapeMapOfSmallShapes(t *testing.T) {
	all := smallPassages()
	for _, s := range smallShapes(3) {
		for _, p := range all {
			wantMapped(t, s, p)
		}
	}
	for i, s := range shapesOf(4) {
		for k := i % 7; k < len(all); k += 7 {
			wantMapped(t, s, all[k])
		}
	}
}

// wantMapped fails if the map of a shape for a pair is not that of the document's sentence, or no pair of both domains of the shape.
func wantMapped(t *testing.T, s string, p passage) bool {
	t.Helper()
	what := fmt.Sprint(s, " for ", p.name)
	up, down, ok := impl.ShapeMap(s, p.d(), p.e(), p.up, p.down)
	want, fits := figureOf(s).mapped(p)
	if !fits {
		wantNoPair(t, what, up, down, ok)
		return false
	}
	wantPair(t, what, up, down, ok, want)
	from, fine := impl.ShapeDomain(s, p.d())
	to, good := impl.ShapeDomain(s, p.e())
	if !fine || !good || !impl.PairIs(from, to, up, down) {
		t.Errorf("%s: ShapeMap is no pair of both domains", what)
	}
	return true
}

// P72: against the definition, for larger shapes, with functions around functions and too many elements on the way.
func TestShapeMapOfLargerShapes(t *testing.T) {
	small, larger := smallPassages(), largerPassages(t)
	some, none := 0, 0
	for i, s := range someShapes(200) {
		for k := range 4 {
			for _, p := range []passage{small[(i*5+k*37)%len(small)], larger[(i*3+k*11)%len(larger)]} {
				if wantMapped(t, s, p) {
					some++
				} else {
					none++
				}
			}
		}
	}
	if some < 500 || none < 200 {
		t.Errorf("%d maps, %d failed", some, none)
	}
}

// P72: the pair that changes nothing is mapped to one that changes nothing.
func TestShapeMapOfNothing(t *testing.T) {
	for _, s := range append(smallShapes(4), someShapes(60)...) {
		for _, x := range []impl.Order{chain(1), chain(3), flat(2), fallingChain(3), must(t, [][]int{{}, {}, {0, 1}})} {
			p := aboveOf(x).same()
			up, down, ok := impl.ShapeMap(s, x, x, p.up, p.down)
			d, fine := impl.ShapeDomain(s, x)
			if ok != fine || !slices.Equal(up, identity(len(d.Up))) || !slices.Equal(down, identity(len(d.Up))) {
				t.Errorf("%s for %v: ShapeMap = %v, %v, %v", s, x.Up, up, down, ok)
			}
		}
	}
}

// P73: the pair that does both is mapped to the pair that does both maps.
func TestShapeMapOfBoth(t *testing.T) {
	all := smallPassages()
	count := 0
	for i, s := range append(smallShapes(4), someShapes(100)...) {
		for k := i % 29; k < len(all); k += 29 {
			p := all[k]
			if wantBothMapped(t, s, p, p.b.doubled()) {
				count++
			}
		}
	}
	if count < 500 {
		t.Errorf("%d pairs of maps", count)
	}
}

// wantBothMapped fails if both maps of a shape for two pairs that meet are there, and the map for the pair that does both is there, but not the pair that does both maps.
func wantBothMapped(t *testing.T, s string, p passage, q passage) bool {
	t.Helper()
	both := p.then(q)
	up, down, ok := impl.ShapeMap(s, p.d(), p.e(), p.up, p.down)
	more, less, fine := impl.ShapeMap(s, q.d(), q.e(), q.up, q.down)
	whole, back, good := impl.ShapeMap(s, both.d(), both.e(), both.up, both.down)
	if !ok || !fine || !good {
		return false
	}
	from, _ := impl.ShapeDomain(s, p.d())
	middle, _ := impl.ShapeDomain(s, p.e())
	to, _ := impl.ShapeDomain(s, q.e())
	wantUp, wantDown, ok := impl.PairAfter(from, middle, to, up, down, more, less)
	wantPair(t, s+" for "+both.name, whole, back, good && ok, passage{up: wantUp, down: wantDown})
	return true
}

// P72: maps that are known.
func TestShapeMapOfNamedPairs(t *testing.T) {
	up, down := []int{0, 2}, []int{0, 0, 1} // of a chain of 2 to a chain of 3
	for _, c := range []struct {
		shape            string
		wantUp, wantDown []int
	}{
		{"x", []int{0, 2}, []int{0, 0, 1}},
		{"u", []int{0}, []int{0}},
		{"b", []int{0, 1, 2}, []int{0, 1, 2}},
		{"(l x)", []int{0, 1, 3}, []int{0, 1, 1, 2}},
		{"(* x b)", []int{0, 1, 2, 6, 7, 8}, []int{0, 1, 2, 0, 1, 2, 3, 4, 5}},
		{"(* b x)", []int{0, 2, 3, 5, 6, 8}, []int{0, 0, 1, 2, 2, 3, 4, 4, 5}},
		{"(+ x u)", []int{0, 1, 3, 4}, []int{0, 1, 1, 2, 3}},
		{"(+ u x)", []int{0, 1, 2, 4}, []int{0, 1, 2, 2, 3}},
		{"(> x u)", []int{0}, []int{0}},
		{"(> u x)", []int{0, 2}, []int{0, 0, 1}},
		{"(> x (l u))", []int{0, 1, 3}, []int{0, 1, 1, 2}},               // 00, 01, 11 to 000, 001, 011, 111
		{"(> (l u) x)", []int{0, 2, 5}, []int{0, 0, 1, 0, 1, 2}},         // 00, 01, 11 to 00, 01, 02, 11, 12, 22
		{"(> x x)", []int{0, 2, 9}, []int{0, 0, 1, 0, 1, 1, 0, 1, 1, 2}}, // 00, 01, 11 to 000, 002, 222
	} {
		gotUp, gotDown, ok := impl.ShapeMap(c.shape, chain(2), chain(3), up, down)
		wantPair(t, c.shape, gotUp, gotDown, ok, passage{up: c.wantUp, down: c.wantDown})
	}
}

// P72: just ElementsMax elements, and more, for the second domain alone and on the way only.
func TestShapeMapLimit(t *testing.T) {
	for _, c := range []struct {
		shape string
		n     int // of a chain of n - 1 to one of n
		want  bool
	}{
		{"x", 200, true},
		{"u", 200, true},
		{"(l x)", 199, true},
		{"(l x)", 200, false},
		{"(* x (l (l (l u))))", 50, true},
		{"(* x (l (l (l u))))", 51, false},
		{"(+ x u)", 198, true},
		{"(+ x u)", 199, false},
		{"(> x (l u))", 199, true},
		{"(> x (l u))", 200, false},
		{"(> x u)", 200, true},
		{"(> (l x) u)", 199, true},
		{"(> (l x) u)", 200, false},
		{"(> u (l x))", 200, false},
		{"(> (> (l x) u) x)", 200, false},
		{"(> (> x u) x)", 200, true},
	} {
		up, down := identity(c.n-1), append(identity(c.n-1), c.n-2)
		got, back, ok := impl.ShapeMap(c.shape, chain(c.n-1), chain(c.n), up, down)
		if !c.want {
			wantNoPair(t, fmt.Sprint(c.shape, " for ", c.n), got, back, ok)
			continue
		}
		from, _ := impl.ShapeDomain(c.shape, chain(c.n-1))
		to, _ := impl.ShapeDomain(c.shape, chain(c.n))
		if !ok || !impl.PairIs(from, to, got, back) {
			t.Errorf("%s for %d: ShapeMap = %v, %v, %v", c.shape, c.n, got, back, ok)
		}
	}
}
