package tests

import (
	"slices"
	"testing"

	"loop.example/scottdomains/impl"
)

// P1
func TestOrderBelowIsUp(t *testing.T) {
	for _, s := range samples(t) {
		if !impl.OrderValid(s.order) {
			t.Fatalf("%s: OrderValid does not hold", s.name)
		}
		for a := range s.order.Up {
			for b := range s.order.Up {
				if got, want := impl.OrderBelow(s.order, a, b), slices.Contains(s.order.Up[a], b); got != want {
					t.Errorf("%s: OrderBelow(%d, %d) = %v", s.name, a, b, got)
				}
			}
		}
	}
}

// P1: the document's definition decides for each relation of at most four elements.
func TestOrderValidForAllRelations(t *testing.T) {
	for n := 1; n <= 4; n++ {
		valid := 0
		for code := range 1 << (n * n) {
			a, d := relation(n, code)
			if got, want := impl.OrderValid(d), a.isOrder(); got != want {
				t.Fatalf("OrderValid(%v) = %v", d.Up, got)
			} else if got {
				valid++
			}
		}
		if want := []int{1, 3, 19, 219}[n-1]; valid != want {
			t.Errorf("%d orders of %d elements, want %d", valid, n, want)
		}
	}
}

// P1: a relation that fails to be an order at one place of many.
func TestOrderValidWithOneFault(t *testing.T) {
	for seed := range uint32(20) {
		d := mixed(t, 12, seed)
		for i := range d.Up {
			for k := range d.Up {
				turned := impl.Order{Up: cloneLists(d.Up)}
				if at, has := slices.BinarySearch(turned.Up[i], k); has {
					turned.Up[i] = slices.Delete(turned.Up[i], at, at+1)
				} else {
					turned.Up[i] = slices.Insert(turned.Up[i], at, k)
				}
				if got, want := impl.OrderValid(turned), aboveOf(turned).isOrder(); got != want {
					t.Fatalf("seed %d: OrderValid(%v) = %v", seed, turned.Up, got)
				}
			}
		}
	}
}

// P2
func TestJoinAndMeetOfElementsBelow(t *testing.T) {
	for _, s := range samples(t) {
		for a := range s.order.Up {
			for b := range s.order.Up {
				below := impl.OrderBelow(s.order, a, b)
				if !below {
					continue
				}
				if got := impl.OrderJoin(s.order, a, b); got != b {
					t.Errorf("%s: OrderJoin(%d, %d) = %d", s.name, a, b, got)
				}
				if got := impl.OrderMeet(s.order, a, b); got != a {
					t.Errorf("%s: OrderMeet(%d, %d) = %d", s.name, a, b, got)
				}
				if back := impl.OrderBelow(s.order, b, a); back != (a == b) {
					t.Errorf("%s: OrderBelow(%d, %d) = %v", s.name, b, a, back)
				}
			}
		}
	}
}

// P3
func TestOrderLeast(t *testing.T) {
	for _, s := range samples(t) {
		least := impl.OrderLeast(s.order)
		if want := aboveOf(s.order).least(); least != want {
			t.Errorf("%s: OrderLeast = %d, want %d", s.name, least, want)
		}
		if least < 0 {
			continue
		}
		for a := range s.order.Up {
			if !impl.OrderBelow(s.order, least, a) {
				t.Errorf("%s: %d is not above the least element", s.name, a)
			}
			if got := impl.OrderJoin(s.order, least, a); got != a {
				t.Errorf("%s: OrderJoin(%d, %d) = %d", s.name, least, a, got)
			}
		}
	}
}

// P4
func TestOrderJoin(t *testing.T) {
	for _, s := range samples(t) {
		a := aboveOf(s.order)
		for x := range a {
			for y := range a {
				join := impl.OrderJoin(s.order, x, y)
				if want := a.join(x, y); join != want {
					t.Errorf("%s: OrderJoin(%d, %d) = %d, want %d", s.name, x, y, join, want)
				}
				if other := impl.OrderJoin(s.order, y, x); other != join {
					t.Errorf("%s: OrderJoin(%d, %d) = %d, exchanged %d", s.name, x, y, join, other)
				}
			}
		}
	}
}

// P5
func TestOrderMeet(t *testing.T) {
	for _, s := range samples(t) {
		a := aboveOf(s.order)
		back, _ := impl.OrderBack(s.order)
		for x := range a {
			for y := range a {
				meet := impl.OrderMeet(s.order, x, y)
				if want := a.back().join(x, y); meet != want {
					t.Errorf("%s: OrderMeet(%d, %d) = %d, want %d", s.name, x, y, meet, want)
				}
				if join := impl.OrderJoin(back, x, y); join != meet {
					t.Errorf("%s: OrderMeet(%d, %d) = %d, OrderJoin turned round %d", s.name, x, y, meet, join)
				}
				if meet < 0 {
					continue
				}
				if got := impl.OrderMeet(s.order, meet, x); got != meet {
					t.Errorf("%s: OrderMeet(%d, %d) = %d", s.name, meet, x, got)
				}
			}
		}
	}
}

func TestElementsWithoutJoinOrMeet(t *testing.T) {
	between := must(t, [][]int{{1, 2}, {3, 4}, {3, 4}, {5}, {5}, {}})
	for _, c := range []struct {
		name       string
		order      impl.Order
		a, b       int
		join, meet int
	}{
		{"no element above both", flat(2), 1, 2, -1, 0},
		{"no element below both", must(t, [][]int{{2}, {2}, {}}), 0, 1, 2, -1},
		{"no element of both kinds", loose(2), 0, 1, -1, -1},
		{"two least ones above both", between, 1, 2, -1, 0},
		{"two greatest ones below both", between, 3, 4, 5, -1},
		{"one element", chain(1), 0, 0, 0, 0},
	} {
		if got := impl.OrderJoin(c.order, c.a, c.b); got != c.join {
			t.Errorf("%s: OrderJoin = %d, want %d", c.name, got, c.join)
		}
		if got := impl.OrderMeet(c.order, c.a, c.b); got != c.meet {
			t.Errorf("%s: OrderMeet = %d, want %d", c.name, got, c.meet)
		}
	}
}

// P6
func TestOrderCovers(t *testing.T) {
	for _, s := range append(samples(t), sample{"chain of 200", chain(200)}) {
		covers, ok := impl.OrderCovers(s.order)
		if !ok || len(covers) != len(s.order.Up) {
			t.Fatalf("%s: OrderCovers = %v, %v", s.name, covers, ok)
		}
		if back, fine := impl.OrderFrom(covers); !fine || !sameLists(back.Up, s.order.Up) {
			t.Errorf("%s: OrderFrom(%v) = %v", s.name, covers, back.Up)
		}
		if len(covers) > 20 {
			continue // by the definition this takes long
		}
		for i, list := range covers {
			if want := aboveOf(s.order).covers(i); !slices.Equal(list, want) {
				t.Errorf("%s: OrderCovers has %v for %d, want %v", s.name, list, i, want)
			}
		}
	}
}

// P7
func TestOrderFrom(t *testing.T) {
	for _, c := range []struct {
		name  string
		lists [][]int
		want  [][]int
	}{
		{"one element", [][]int{{}}, [][]int{{0}}},
		{"one element with itself", [][]int{{0, 0}}, [][]int{{0}}},
		{"a nil list", [][]int{nil, nil}, [][]int{{0}, {1}}},
		{"a path", [][]int{{1}, {2}, {3}, {}}, [][]int{{0, 1, 2, 3}, {1, 2, 3}, {2, 3}, {3}}},
		{"a path that falls", [][]int{{}, {0}, {1}, {2}}, [][]int{{0}, {0, 1}, {0, 1, 2}, {0, 1, 2, 3}}},
		{"not ascending, some twice", [][]int{{2, 1, 2, 0}, {}, {2}}, [][]int{{0, 1, 2}, {1}, {2}}},
		{"a way round", [][]int{{3}, {}, {1}, {2}}, [][]int{{0, 1, 2, 3}, {1}, {1, 2}, {1, 2, 3}}},
	} {
		d, ok := impl.OrderFrom(c.lists)
		if !ok || !sameLists(d.Up, c.want) {
			t.Errorf("%s: OrderFrom(%v) = %v, %v", c.name, c.lists, d.Up, ok)
		}
	}
	for _, s := range samples(t) {
		if d, ok := impl.OrderFrom(s.order.Up); !ok || !sameLists(d.Up, s.order.Up) {
			t.Errorf("%s: OrderFrom of Up = %v", s.name, d.Up)
		}
	}
}

// P7: a path through all elements, as many as there may be, with shuffled numbers.
func TestOrderFromLongPath(t *testing.T) {
	lists := make([][]int, impl.ElementsMax)
	at := 0
	for range impl.ElementsMax - 1 {
		next := (at + 77) % impl.ElementsMax
		lists[at] = []int{next}
		at = next
	}
	d, ok := impl.OrderFrom(lists)
	if !ok || len(d.Up[0]) != impl.ElementsMax || len(d.Up[at]) != 1 {
		t.Fatalf("OrderFrom of a path: %v", ok)
	}
	for at, i := 0, 0; i < impl.ElementsMax; at, i = (at+77)%impl.ElementsMax, i+1 {
		if len(d.Up[at]) != impl.ElementsMax-i || !slices.IsSorted(d.Up[at]) {
			t.Errorf("place %d of the path has %d above", i, len(d.Up[at]))
		}
	}
	if height := impl.OrderHeight(d); height != impl.ElementsMax {
		t.Errorf("OrderHeight = %d", height)
	}
}

// P8
func TestOrderBack(t *testing.T) {
	for _, s := range samples(t) {
		back, ok := impl.OrderBack(s.order)
		if !ok || !impl.OrderValid(back) {
			t.Fatalf("%s: OrderBack = %v, %v", s.name, back.Up, ok)
		}
		for a := range s.order.Up {
			for b := range s.order.Up {
				if impl.OrderBelow(back, b, a) != impl.OrderBelow(s.order, a, b) {
					t.Errorf("%s: %d and %d are not turned round", s.name, a, b)
				}
			}
		}
		if again, fine := impl.OrderBack(back); !fine || !sameLists(again.Up, s.order.Up) {
			t.Errorf("%s: OrderBack twice = %v", s.name, again.Up)
		}
		if impl.OrderHeight(back) != impl.OrderHeight(s.order) || impl.OrderWays(back) != impl.OrderWays(s.order) {
			t.Errorf("%s: height or ways differ turned round", s.name)
		}
	}
}

// P9
func TestOrderHeight(t *testing.T) {
	for _, s := range samples(t) {
		height := impl.OrderHeight(s.order)
		if want := aboveOf(s.order).height(); height != want {
			t.Errorf("%s: OrderHeight = %d, want %d", s.name, height, want)
		}
		if height < 1 || height > len(s.order.Up) {
			t.Errorf("%s: OrderHeight = %d", s.name, height)
		}
		covers, _ := impl.OrderCovers(s.order)
		none := !slices.ContainsFunc(covers, func(list []int) bool { return len(list) > 0 })
		if none != (height == 1) {
			t.Errorf("%s: OrderHeight = %d with covers %v", s.name, height, covers)
		}
	}
}

// P10
func TestDomainIs(t *testing.T) {
	for _, s := range samples(t) {
		a := aboveOf(s.order)
		is := impl.DomainIs(s.order)
		if want := a.isDomain(); is != want {
			t.Errorf("%s: DomainIs = %v, want %v", s.name, is, want)
		}
		if !is {
			continue
		}
		if impl.OrderLeast(s.order) < 0 {
			t.Errorf("%s: a domain without a least element", s.name)
		}
		for x := range a {
			for y := range a {
				if impl.OrderMeet(s.order, x, y) < 0 {
					t.Errorf("%s: %d and %d have no meet", s.name, x, y)
				}
				if (impl.OrderJoin(s.order, x, y) >= 0) != a.bounded(x, y) {
					t.Errorf("%s: OrderJoin(%d, %d) = %d", s.name, x, y, impl.OrderJoin(s.order, x, y))
				}
			}
		}
	}
}

func TestDomainIsForNamedOrders(t *testing.T) {
	for _, c := range []struct {
		name  string
		order impl.Order
		want  bool
	}{
		{"one element", chain(1), true},
		{"no least element", loose(2), false},
		{"joins of all, but no least element", must(t, [][]int{{2}, {2}, {}}), false},
		{"some not bounded", flat(3), true},
		{"bounded without a join", must(t, [][]int{{1, 2}, {3, 4}, {3, 4}, {5}, {5}, {}}), false},
		{"bounded twice without a join", must(t, [][]int{{1, 2}, {3, 4}, {3, 4}, {}, {}}), false},
		{"pentagon", must(t, [][]int{{1, 2}, {3}, {4}, {4}, {}}), true},
		{"least is the last", fallingChain(4), true},
		{"flat of 199", flat(199), true},
	} {
		if got := impl.DomainIs(c.order); got != c.want {
			t.Errorf("%s: DomainIs = %v", c.name, got)
		}
	}
}

// P13
func TestOrderWays(t *testing.T) {
	for _, s := range samples(t) {
		ways := impl.OrderWays(s.order)
		if want := aboveOf(s.order).ways(); ways != want {
			t.Errorf("%s: OrderWays = %d, want %d", s.name, ways, want)
		}
		if ways < 1 || (ways == 1) != (impl.OrderHeight(s.order) == len(s.order.Up)) {
			t.Errorf("%s: OrderWays = %d", s.name, ways)
		}
	}
}

// P13: the limit of 10 elements.
func TestOrderWaysLimit(t *testing.T) {
	for _, c := range []struct {
		name  string
		order impl.Order
		want  int
	}{
		{"one element", chain(1), 1},
		{"10 loose elements", loose(10), 3628800},
		{"chain of 10", chain(10), 1},
		{"flat of 9", flat(9), 362880},
		{"five pairs", must(t, [][]int{{1}, {}, {3}, {}, {5}, {}, {7}, {}, {9}, {}}), 113400},
		{"11 loose elements", loose(11), -1},
		{"chain of 11", chain(11), -1},
		{"chain of 200", chain(200), -1},
	} {
		if got := impl.OrderWays(c.order); got != c.want {
			t.Errorf("%s: OrderWays = %d, want %d", c.name, got, c.want)
		}
	}
}

// P1 to P10 and P13 against the definitions, for each order of at most four elements.
func TestAllSmallOrders(t *testing.T) {
	for n := 1; n <= 4; n++ {
		for _, d := range allOrders(n) {
			a := aboveOf(d)
			if got, want := impl.OrderLeast(d), a.least(); got != want {
				t.Errorf("OrderLeast(%v) = %d", d.Up, got)
			}
			if got, want := impl.OrderHeight(d), a.height(); got != want {
				t.Errorf("OrderHeight(%v) = %d", d.Up, got)
			}
			if got, want := impl.OrderWays(d), a.ways(); got != want {
				t.Errorf("OrderWays(%v) = %d", d.Up, got)
			}
			if got, want := impl.DomainIs(d), a.isDomain(); got != want {
				t.Errorf("DomainIs(%v) = %v", d.Up, got)
			}
			covers, _ := impl.OrderCovers(d)
			for x := range a {
				if !slices.Equal(covers[x], a.covers(x)) {
					t.Errorf("OrderCovers(%v) has %v for %d", d.Up, covers[x], x)
				}
				for y := range a {
					if got, want := impl.OrderJoin(d, x, y), a.join(x, y); got != want {
						t.Errorf("OrderJoin(%v, %d, %d) = %d", d.Up, x, y, got)
					}
					if got, want := impl.OrderMeet(d, x, y), a.back().join(x, y); got != want {
						t.Errorf("OrderMeet(%v, %d, %d) = %d", d.Up, x, y, got)
					}
				}
			}
		}
	}
}

// Orders of ElementsMax elements are valid; the words of the numbers' ends are in use.
func TestLargestOrders(t *testing.T) {
	n := impl.ElementsMax
	for _, c := range []struct {
		name               string
		order              impl.Order
		least, height      int
		join, meet         int // of the elements 63 and 199
		domain, backDomain bool
	}{
		{"chain", chain(n), 0, n, 199, 63, true, true},
		{"falling chain", fallingChain(n), 199, n, 63, 199, true, true},
		{"loose", loose(n), -1, 1, -1, -1, false, false},
		{"flat", flat(n - 1), 0, 2, -1, 0, true, false},
	} {
		if !impl.OrderValid(c.order) || impl.OrderLeast(c.order) != c.least || impl.OrderHeight(c.order) != c.height {
			t.Errorf("%s: OrderLeast = %d, OrderHeight = %d", c.name, impl.OrderLeast(c.order), impl.OrderHeight(c.order))
		}
		if join, meet := impl.OrderJoin(c.order, 63, 199), impl.OrderMeet(c.order, 63, 199); join != c.join || meet != c.meet {
			t.Errorf("%s: join %d, meet %d", c.name, join, meet)
		}
		back, ok := impl.OrderBack(c.order)
		if !ok || impl.DomainIs(c.order) != c.domain || impl.DomainIs(back) != c.backDomain {
			t.Errorf("%s: DomainIs = %v, turned round %v", c.name, impl.DomainIs(c.order), impl.DomainIs(back))
		}
	}
}
