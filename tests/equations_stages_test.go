package tests

import (
	"fmt"
	"slices"
	"testing"

	"loop.example/scottdomains/impl"
)

// stageLists returns the stages of all shapes of at most three atoms, some of four, the named ones and some made from seeds.
func stageLists() []stageList {
	var all []stageList
	for i, s := range shapesOf(4) {
		if i%4 == 0 {
			all = append(all, stagesOf(s))
		}
	}
	for _, s := range append(smallShapes(3), someShapes(60)...) {
		all = append(all, stagesOf(s))
	}
	return all
}

// P70, P74: each stage against the definition, and no stage behind the last one.
func TestShapeStage(t *testing.T) {
	short := 0
	for _, l := range stageLists() {
		for n := -1; n <= impl.StagesMax+1; n++ {
			what := fmt.Sprint(l.name, ": ShapeStage of ", n)
			d, ok := impl.ShapeStage(l.name, n)
			if n < 0 || n >= len(l.stages) {
				wantNoOrder(t, what, d, ok)
				continue
			}
			wantOrder(t, what, d, ok, l.stages[n].order())
		}
		if len(l.stages) <= impl.StagesMax {
			short++
		}
	}
	if short < 10 {
		t.Errorf("%d shapes with fewer stages", short)
	}
}

// P70: the stage 0 is the domain of one element, and each further one the domain of the shape for the one ahead.
func TestShapeStageIsShapeDomain(t *testing.T) {
	for _, s := range append(smallShapes(3), someShapes(60)...) {
		d, ok := impl.ShapeStage(s, 0)
		wantOrder(t, s+": ShapeStage of 0", d, ok, chain(1))
		for n := 1; n <= impl.StagesMax && ok; n++ {
			var want impl.Order
			want, ok = impl.ShapeDomain(s, d)
			next, fine := impl.ShapeStage(s, n)
			if fine != ok || !sameLists(next.Up, want.Up) {
				t.Errorf("%s: ShapeStage of %d = %v, %v, want %v", s, n, next.Up, fine, want.Up)
			}
			d = next
		}
	}
}

// P74, P75: each link against the definition, and no link of the last stage.
func TestShapeLink(t *testing.T) {
	for _, l := range stageLists() {
		for n := -1; n <= impl.StagesMax+1; n++ {
			what := fmt.Sprint(l.name, ": ShapeLink of ", n)
			up, down, ok := impl.ShapeLink(l.name, n)
			if n < 0 || n >= len(l.links) {
				wantNoPair(t, what, up, down, ok)
				continue
			}
			wantPair(t, what, up, down, ok, l.links[n])
		}
	}
}

// P74, P75: a link is a projection pair, goes to the least element at 0, and is the map of the shape for the one ahead further on.
func TestShapeLinkIsShapeMap(t *testing.T) {
	for _, s := range append(smallShapes(3), someShapes(60)...) {
		var ahead impl.Order
		var up, down []int
		for n := range impl.StagesMax {
			d, fine := impl.ShapeStage(s, n)
			e, fits := impl.ShapeStage(s, n+1)
			more, less, ok := impl.ShapeLink(s, n)
			if ok != fits {
				t.Errorf("%s: ShapeLink of %d is there: %v, but the stage: %v", s, n, ok, fits)
			}
			if !ok {
				break
			}
			if !fine || !impl.PairIs(d, e, more, less) {
				t.Errorf("%s: ShapeLink of %d = %v, %v is no pair", s, n, more, less)
			}
			want := passage{up: []int{impl.OrderLeast(e)}, down: repeated(0, len(e.Up))}
			if n > 0 {
				want.up, want.down, fine = impl.ShapeMap(s, ahead, d, up, down)
			}
			wantPair(t, fmt.Sprint(s, ": ShapeLink of ", n), more, less, fine, want)
			ahead, up, down = d, more, less
		}
	}
}

// P76: against the definition; the sizes begin with 1 and do not fall, and are as many as there are stages.
func TestShapeSizes(t *testing.T) {
	for _, l := range stageLists() {
		var want []int
		for _, stage := range l.stages {
			want = append(want, len(stage))
		}
		sizes, ok := impl.ShapeSizes(l.name)
		wantList(t, l.name+": ShapeSizes", sizes, ok, want)
		if len(sizes) < 1 || sizes[0] != 1 || !slices.IsSorted(sizes) || len(sizes) > impl.StagesMax+1 {
			t.Errorf("%s: ShapeSizes = %v", l.name, sizes)
		}
		for n, size := range sizes {
			if d, fine := impl.ShapeStage(l.name, n); !fine || len(d.Up) != size {
				t.Errorf("%s: stage %d has %d elements, %v, want %d", l.name, n, len(d.Up), fine, size)
			}
		}
		d, fine := impl.ShapeStage(l.name, len(sizes))
		wantNoOrder(t, l.name+": one stage more", d, fine)
	}
}

// P76: sizes that are known, with just ElementsMax elements and more, also on the way only.
func TestShapeSizesOfNamedShapes(t *testing.T) {
	wide := "(> b (> b b))" // of 197 elements
	for _, c := range []struct {
		shape string
		want  []int
	}{
		{"x", repeated(1, 7)},
		{"u", repeated(1, 7)},
		{"b", []int{1, 3, 3, 3, 3, 3, 3}},
		{"(l x)", []int{1, 2, 3, 4, 5, 6, 7}},
		{"(l (l x))", []int{1, 3, 5, 7, 9, 11, 13}},
		{"(* x x)", repeated(1, 7)},
		{"(* x (l u))", []int{1, 2, 4, 8, 16, 32, 64}},
		{"(* x b)", []int{1, 3, 9, 27, 81}},
		{"(* b b)", []int{1, 9, 9, 9, 9, 9, 9}},
		{"(l (* x x))", []int{1, 2, 5, 26}},
		{"(+ x x)", []int{1, 3, 7, 15, 31, 63, 127}},
		{"(+ u x)", []int{1, 3, 5, 7, 9, 11, 13}},
		{"(+ x (l (* x x)))", []int{1, 4, 22}},
		{"(> x x)", repeated(1, 7)},
		{"(> x u)", repeated(1, 7)},
		{"(> u x)", repeated(1, 7)},
		{"(> x (l u))", []int{1, 2, 3, 4, 5, 6, 7}},
		{"(> (l u) x)", repeated(1, 7)},
		{"(> b b)", []int{1, 11, 11, 11, 11, 11, 11}},
		{"(l (> x x))", []int{1, 2, 4, 36}},
		{"(> (> x (l u)) (l u))", []int{1, 3, 5, 7, 9, 11, 13}},
		{"(> (> (> x u) x) u)", repeated(1, 7)},
		{wide, []int{1, 197, 197, 197, 197, 197, 197}},
		{nested(3, wide), []int{1, 200, 200, 200, 200, 200, 200}},
		{nested(4, wide), []int{1}},
		{"(> " + nested(3, wide) + " u)", repeated(1, 7)},
		{"(> " + nested(4, wide) + " u)", []int{1}},
		{"(> " + nested(4, wide) + " x)", []int{1}},
		{"(+ x (l (* b (> b x))))", []int{1, 6, 200}},
		{"(+ (l (* (> b x) b)) x)", []int{1, 6, 200}},
		{"(l (> (> (> x b) (* b b)) u))", []int{1, 2}},
		{"(> (> (> x b) (* b b)) u)", repeated(1, 7)},
		{"(* b (> (l (> x b)) u))", []int{1, 3, 3, 3, 3, 3, 3}},
		{nested(11, "x"), []int{1, 12, 23, 34, 45, 56, 67}},
		{nested(11, "u"), []int{1, 12, 12, 12, 12, 12, 12}},
		{nested(9, "(* x b)"), []int{1, 12, 45, 144}},
	} {
		sizes, ok := impl.ShapeSizes(c.shape)
		wantList(t, c.shape+": ShapeSizes", sizes, ok, c.want)
	}
}

// P74, P75: the stage StagesMax and the links of number 0 and of StagesMax - 1, by hand.
func TestShapeStagesAtTheLimit(t *testing.T) {
	wide := nested(3, "(> b (> b b))")
	for _, c := range []struct {
		shape    string
		size     int
		up, down []int // of the last link
	}{
		{"x", 1, []int{0}, []int{0}},
		{"u", 1, []int{0}, []int{0}},
		{"b", 3, identity(3), identity(3)},
		{"(l x)", 7, identity(6), append(identity(6), 5)},
		{"(> x (l u))", 7, []int{0, 1, 2, 4, 5, 6}, []int{0, 1, 2, 2, 3, 4, 5}},
		{wide, 200, identity(200), identity(200)},
	} {
		d, ok := impl.ShapeStage(c.shape, impl.StagesMax)
		if !ok || len(d.Up) != c.size || !impl.DomainIs(d) {
			t.Errorf("%s: the last stage has %d elements, %v", c.shape, len(d.Up), ok)
		}
		up, down, ok := impl.ShapeLink(c.shape, impl.StagesMax-1)
		wantPair(t, c.shape+": the last link", up, down, ok, passage{up: c.up, down: c.down})
		d, _ = impl.ShapeStage(c.shape, 1)
		up, down, ok = impl.ShapeLink(c.shape, 0)
		wantPair(t, c.shape+": the first link", up, down, ok, passage{up: []int{0}, down: repeated(0, len(d.Up))})
	}
	up, down, ok := impl.ShapeLink(nested(4, "(> b (> b b))"), 0)
	wantNoPair(t, "to a stage of 201 elements", up, down, ok)
	up, down, ok = impl.ShapeLink("(+ x (l (* b (> b x))))", 1)
	if !ok || len(up) != 6 || len(down) != 200 {
		t.Errorf("to a stage of 200 elements: %v, %v, %v", up, down, ok)
	}
	up, down, ok = impl.ShapeLink("(+ x (l (* b (> b x))))", 2)
	wantNoPair(t, "from a stage of 200 elements", up, down, ok)
}

// P77: against the definition, for all elements of all stages, those that come from no stage ahead among them.
func TestShapeRank(t *testing.T) {
	ahead, own := 0, 0
	for _, l := range stageLists() {
		for n, stage := range l.stages {
			for k := 0; k < len(stage); k += 1 + len(stage)/20 {
				want := l.rank(n, k)
				rank, ok := impl.ShapeRank(l.name, n, k)
				wantIndex(t, fmt.Sprint(l.name, ": ShapeRank of ", n, " and ", k), rank, ok, want)
				if want == n {
					own++
				} else {
					ahead++
				}
			}
			rank, ok := impl.ShapeRank(l.name, n, len(stage))
			wantNoIndex(t, fmt.Sprint(l.name, ": ShapeRank of ", n, " past the last element"), rank, ok)
		}
	}
	if ahead < 500 || own < 200 {
		t.Errorf("%d elements come from a stage ahead, %d do not", ahead, own)
	}
}

// P77: at most the number of the stage, 0 for the least element, and the same for the element of the next stage to which one is linked.
func TestShapeRankIsKept(t *testing.T) {
	for _, s := range append(smallShapes(3), someShapes(60)...) {
		sizes, _ := impl.ShapeSizes(s)
		for n, size := range sizes {
			d, _ := impl.ShapeStage(s, n)
			rank, ok := impl.ShapeRank(s, n, impl.OrderLeast(d))
			wantIndex(t, fmt.Sprint(s, ": ShapeRank of the least element of ", n), rank, ok, 0)
			up, _, linked := impl.ShapeLink(s, n)
			for k := 0; k < size; k += 1 + size/10 {
				rank, ok = impl.ShapeRank(s, n, k)
				if !ok || rank < 0 || rank > n {
					t.Errorf("%s: ShapeRank of %d and %d = %d, %v", s, n, k, rank, ok)
				}
				if linked {
					next, ok := impl.ShapeRank(s, n+1, up[k])
					wantIndex(t, fmt.Sprint(s, ": ShapeRank of what is linked to ", k, " of ", n), next, ok, rank)
				}
			}
		}
	}
}

// P77: ranks that are known.
func TestShapeRankOfNamedShapes(t *testing.T) {
	for _, c := range []struct {
		shape string
		n     int
		want  []int // of all elements
	}{
		{"x", 0, []int{0}},
		{"x", 6, []int{0}},
		{"b", 0, []int{0}},
		{"b", 1, []int{0, 1, 1}},
		{"b", 6, []int{0, 1, 1}},
		{"(l x)", 3, []int{0, 1, 2, 3}},
		{"(l x)", 6, identity(7)},
		{"(* x (l u))", 2, []int{0, 1, 2, 2}},
		{"(+ u x)", 2, []int{0, 1, 1, 2, 2}},
		{"(> x (l u))", 2, []int{0, 2, 1}},
		{"(> x (l u))", 3, []int{0, 2, 3, 1}},
		{"(> x (l u))", 4, []int{0, 2, 4, 3, 1}},
		{"(> u (l (* x b)))", 1, []int{0, 1, 1, 1}},
	} {
		for k, want := range c.want {
			rank, ok := impl.ShapeRank(c.shape, c.n, k)
			wantIndex(t, fmt.Sprint(c.shape, ": ShapeRank of ", c.n, " and ", k), rank, ok, want)
		}
	}
}
