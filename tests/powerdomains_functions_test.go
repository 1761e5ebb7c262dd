package tests

import (
	"testing"

	"loop.example/scottdomains/impl"
)

// P53: against the definition.
func TestPowerUnion(t *testing.T) {
	for _, p := range powers(t) {
		p.indexPairs(func(i int, k int) {
			at, ok := impl.PowerUnion(p.d, p.kind, i, k)
			wantIndex(t, p.name+": PowerUnion", at, ok, p.index(p.sets[i]|p.sets[k]))
		})
	}
}

// P53: the same for both exchanged, itself for one and itself, the join of the lower kind and the meet of the upper one.
func TestPowerUnionIsJoinOrMeet(t *testing.T) {
	for _, p := range powers(t) {
		d, _ := impl.PowerOrder(p.d, p.kind)
		for i := range p.sets {
			at, ok := impl.PowerUnion(p.d, p.kind, i, i)
			wantIndex(t, p.name+": PowerUnion with itself", at, ok, i)
		}
		p.indexPairs(func(i int, k int) {
			at, _ := impl.PowerUnion(p.d, p.kind, i, k)
			back, ok := impl.PowerUnion(p.d, p.kind, k, i)
			wantIndex(t, p.name+": PowerUnion exchanged", back, ok, at)
			if join := impl.OrderJoin(d, i, k); p.kind == "lower" && at != join {
				t.Errorf("%s: PowerUnion of %d and %d = %d, but the join is %d", p.name, i, k, at, join)
			}
			if meet := impl.OrderMeet(d, i, k); p.kind == "upper" && at != meet {
				t.Errorf("%s: PowerUnion of %d and %d = %d, but the meet is %d", p.name, i, k, at, meet)
			}
		})
	}
}

// P53: unions of three, which differ in the order of taking them, are one.
func TestPowerUnionOfThree(t *testing.T) {
	for _, p := range powers(t) {
		p.indexPairs(func(i int, k int) {
			m := (i*5 + k*3 + 1) % len(p.sets)
			left, _ := impl.PowerUnion(p.d, p.kind, i, k)
			left, _ = impl.PowerUnion(p.d, p.kind, left, m)
			right, _ := impl.PowerUnion(p.d, p.kind, k, m)
			right, ok := impl.PowerUnion(p.d, p.kind, i, right)
			wantIndex(t, p.name+": PowerUnion of three", right, ok, left)
		})
	}
}

// P53: unions that are known, among them such whose closure adds elements between.
func TestPowerUnionOfNamedDomains(t *testing.T) {
	for _, c := range []struct {
		name string
		d    impl.Order
		kind string
		a, b int
		want int
	}{
		{"one element", chain(1), "lower", 0, 0, 0},
		{"one element", chain(1), "upper", 0, 0, 0},
		{"one element", chain(1), "convex", 0, 0, 0},
		{"chain of 3, 1 and 7", chain(3), "lower", 0, 2, 2},
		{"chain of 3, 4 and 6", chain(3), "upper", 0, 1, 1},
		{"chain of 3, 1 and 4", chain(3), "convex", 0, 3, 5},
		{"chain of 3, 1 and 2", chain(3), "convex", 0, 1, 2},
		{"chain of 3, 4 and 3", chain(3), "convex", 3, 2, 5},
		{"chain of 7, both ends", chain(7), "convex", 0, 21, 27},
		{"flat of 2, 2 and 4", flat(2), "upper", 0, 1, 2},
		{"flat of 2, 2 and 4", flat(2), "convex", 1, 3, 5},
		{"flat of 2, 3 and 5", flat(2), "lower", 1, 2, 3},
		{"flat of 6, the last two", flat(6), "convex", 126, 125, 126},
		{"flat of 6, the first and the last one", flat(6), "convex", 0, 126, 126},
	} {
		at, ok := impl.PowerUnion(c.d, c.kind, c.a, c.b)
		wantIndex(t, c.name+", "+c.kind+": PowerUnion", at, ok, c.want)
	}
}

// P54: against the definition.
func TestPowerMap(t *testing.T) {
	powerPairs(t, func(p power, q power) {
		for _, f := range someFunctions(p.a, q.a) {
			list, ok := impl.PowerMap(p.d, q.d, p.kind, f)
			wantList(t, p.name+" to "+q.name+": PowerMap", list, ok, p.mapped(q, f))
		}
	})
}

// P54: what has one element goes to what has what the function has for this, and unions go to unions.
func TestPowerMapKeepsOnesAndUnions(t *testing.T) {
	powerPairs(t, func(p power, q power) {
		ones, _ := impl.PowerOne(p.d, p.kind)
		images, _ := impl.PowerOne(q.d, q.kind)
		for n, f := range someFunctions(p.a, q.a) {
			list, ok := impl.PowerMap(p.d, q.d, p.kind, f)
			if !ok || len(list) != len(p.sets) {
				t.Errorf("%s to %s: PowerMap of %v = %v, %v", p.name, q.name, f, list, ok)
				continue
			}
			for i, k := range f {
				if list[ones[i]] != images[k] {
					t.Errorf("%s to %s: %v of the set of %d = %d", p.name, q.name, f, i, list[ones[i]])
				}
			}
			for m := range 12 {
				i, k := (n*7+m*5)%len(p.sets), (n*3+m*11)%len(p.sets)
				union, _ := impl.PowerUnion(p.d, p.kind, i, k)
				both, _ := impl.PowerUnion(q.d, q.kind, list[i], list[k])
				if list[union] != both {
					t.Errorf("%s to %s: %v of the union of %d and %d = %d, want %d", p.name, q.name, f, i, k, list[union], both)
				}
			}
		}
	})
}

// P54: the function that changes nothing changes no set, and the map is monotone.
func TestPowerMapIsMonotone(t *testing.T) {
	powerPairs(t, func(p power, q power) {
		first, second := p.order(), q.order()
		functions := someFunctions(p.a, q.a)
		stride := 1 + len(functions)/6
		for i := 0; i < len(functions); i += stride {
			if list, ok := impl.PowerMap(p.d, q.d, p.kind, functions[i]); !ok || !first.monotone(second, list) {
				t.Errorf("%s to %s: %v is not monotone for %v", p.name, q.name, list, functions[i])
			}
		}
		same, ok := impl.PowerMap(p.d, p.d, p.kind, identity(len(p.a)))
		wantList(t, p.name+": PowerMap of the function that changes nothing", same, ok, identity(len(p.sets)))
	})
}

// P54: maps that are known, among them such whose closure adds elements between.
func TestPowerMapOfNamedDomains(t *testing.T) {
	for _, c := range []struct {
		name string
		d, e impl.Order
		kind string
		f    []int
		want []int
	}{
		{"one element", chain(1), chain(1), "convex", []int{0}, []int{0}},
		{"one element to the middle", chain(1), chain(3), "lower", []int{1}, []int{1}},
		{"one element to the middle", chain(1), chain(3), "upper", []int{1}, []int{1}},
		{"one element to the middle", chain(1), chain(3), "convex", []int{1}, []int{1}},
		{"both ends of a chain", chain(2), chain(3), "lower", []int{0, 2}, []int{0, 2}},
		{"both ends of a chain", chain(2), chain(3), "upper", []int{0, 2}, []int{0, 2}},
		{"both ends of a chain", chain(2), chain(3), "convex", []int{0, 2}, []int{0, 3, 5}},
		{"both ends of the chain of 7", chain(2), chain(7), "convex", []int{0, 6}, []int{0, 21, 27}},
		{"flat of 2 to one side", flat(2), chain(2), "upper", []int{0, 1, 0}, []int{0, 1, 1, 1}},
		{"flat of 2 exchanged", flat(2), flat(2), "convex", []int{0, 2, 1}, []int{0, 3, 4, 1, 2, 5, 6}},
	} {
		list, ok := impl.PowerMap(c.d, c.e, c.kind, c.f)
		wantList(t, c.name+", "+c.kind+": PowerMap", list, ok, c.want)
	}
}

// P55: against the definition, for lists that are monotone or not.
func TestPowerExtend(t *testing.T) {
	powerPairs(t, func(p power, q power) {
		for _, list := range someLists(len(p.a), len(q.sets), uint32(len(p.sets))) {
			extension, ok := impl.PowerExtend(p.d, q.d, p.kind, list)
			wantList(t, p.name+" to "+q.name+": PowerExtend", extension, ok, p.extended(q, list))
		}
	})
}

// P55: a monotone list is what its extension has for each element alone.
func TestPowerExtendOfMonotoneLists(t *testing.T) {
	powerPairs(t, func(p power, q power) {
		ones, _ := impl.PowerOne(p.d, p.kind)
		for _, list := range someFunctions(p.a, q.order()) {
			extension, ok := impl.PowerExtend(p.d, q.d, p.kind, list)
			if !ok || len(extension) != len(p.sets) {
				t.Errorf("%s to %s: PowerExtend of %v = %v, %v", p.name, q.name, list, extension, ok)
				continue
			}
			for i, k := range list {
				if extension[ones[i]] != k {
					t.Errorf("%s to %s: the extension of %v has %d for %d", p.name, q.name, list, extension[ones[i]], i)
				}
			}
		}
	})
}

// P55: the extension of PowerOne changes nothing, and that of PowerOne behind a function is PowerMap.
func TestPowerExtendOfOnes(t *testing.T) {
	powerPairs(t, func(p power, q power) {
		ones, _ := impl.PowerOne(p.d, p.kind)
		same, ok := impl.PowerExtend(p.d, p.d, p.kind, ones)
		wantList(t, p.name+": PowerExtend of PowerOne", same, ok, identity(len(p.sets)))
		images, _ := impl.PowerOne(q.d, q.kind)
		functions := someFunctions(p.a, q.a)
		stride := 1 + len(functions)/6
		for i := 0; i < len(functions); i += stride {
			f := functions[i]
			mapped, _ := impl.PowerMap(p.d, q.d, p.kind, f)
			extension, ok := impl.PowerExtend(p.d, q.d, p.kind, behind(f, images))
			wantList(t, p.name+" to "+q.name+": PowerExtend", extension, ok, mapped)
		}
	})
}

// P55: extensions that are known, among them one of a list that is not monotone.
func TestPowerExtendOfNamedDomains(t *testing.T) {
	for _, c := range []struct {
		name string
		d, e impl.Order
		kind string
		list []int
		want []int
	}{
		{"one element", chain(1), chain(1), "upper", []int{0}, []int{0}},
		{"one element to a set of two", chain(1), chain(3), "convex", []int{4}, []int{4}},
		{"ends of a chain", chain(2), chain(3), "convex", []int{0, 3}, []int{0, 3, 5}},
		{"ends of a chain, falling", chain(2), chain(3), "convex", []int{3, 0}, []int{3, 0, 5}},
		{"falling", chain(2), chain(3), "lower", []int{2, 0}, []int{2, 2}},
		{"falling", chain(2), chain(3), "upper", []int{0, 2}, []int{2, 2}},
		{"flat of 2 to sets of the chain", flat(2), chain(2), "lower", []int{0, 1, 0}, []int{0, 1, 0, 1}},
	} {
		list, ok := impl.PowerExtend(c.d, c.e, c.kind, c.list)
		wantList(t, c.name+", "+c.kind+": PowerExtend", list, ok, c.want)
	}
}

// P55: extensions one after the other are the extension of what both do, if the second list is monotone.
func TestPowerExtendTwice(t *testing.T) {
	powerPairs(t, func(p power, q power) {
		lists := someLists(len(p.a), len(q.sets), 5)
		functions := someFunctions(q.a, p.order())
		for n := 0; n < len(lists); n += 1 + len(lists)/5 {
			first, second := lists[n], functions[(n*3+1)%len(functions)]
			there, _ := impl.PowerExtend(p.d, q.d, p.kind, first)
			back, ok := impl.PowerExtend(q.d, p.d, p.kind, second)
			if !ok || len(back) != len(q.sets) {
				t.Errorf("%s to %s: PowerExtend of %v = %v, %v", q.name, p.name, second, back, ok)
				continue
			}
			extension, ok := impl.PowerExtend(p.d, p.d, p.kind, behind(first, back))
			wantList(t, p.name+" to "+q.name+": PowerExtend of both", extension, ok, behind(there, back))
		}
	})
}

// behind returns what a second list has for each number of a first one.
func behind(first []int, second []int) []int {
	list := make([]int, len(first))
	for i, k := range first {
		list[i] = second[k]
	}
	return list
}
