package tests

import (
	"fmt"
	"math"
	"slices"
	"testing"

	"loop.example/scottdomains/impl"
)

// wantFunctions fails if the functions of two domains, their order or their indexes are not the wanted ones.
func wantFunctions(t *testing.T, what string, d impl.Order, e impl.Order, want [][]int) {
	t.Helper()
	if len(want) > impl.ElementsMax {
		wantNoFunctions(t, what, d, e)
		return
	}
	funs, ok := impl.DomainFuns(d, e)
	if !ok || !sameLists(funs, want) {
		t.Errorf("%s: DomainFuns = %v, %v, want %v", what, funs, ok, want)
	}
	fun, ok := impl.DomainFun(d, e)
	wantOrder(t, what+": DomainFun", fun, ok, aboveOf(e).pointwise(want).order())
	for i, list := range want {
		if at := impl.DomainIndex(d, e, list); at != i {
			t.Errorf("%s: DomainIndex of %v = %d, want %d", what, list, at, i)
		}
	}
}

// P18, P19, P23: against the definition, for each two domains of at most three elements.
func TestFunctionsOfSmallDomains(t *testing.T) {
	for _, s := range smallDomains(3) {
		for _, r := range smallDomains(3) {
			wantFunctions(t, s.name+" to "+r.name, s.order, r.order, aboveOf(s.order).functions(aboveOf(r.order)))
		}
	}
}

// P18, P19, P23: each domain of four elements against some others.
func TestFunctionsOfFourElements(t *testing.T) {
	all := smallDomains(4)
	for i, s := range all {
		for k := i % 23; k < len(all); k += 23 {
			r := all[k]
			wantFunctions(t, s.name+" to "+r.name, s.order, r.order, aboveOf(s.order).functions(aboveOf(r.order)))
		}
	}
}

// P18, P19, P23: with more functions than there may be, too.
func TestFunctionsOfNamedDomains(t *testing.T) {
	some, none := 0, 0
	for _, s := range namedDomains(t) {
		for _, r := range namedDomains(t) {
			if math.Pow(float64(len(r.order.Up)), float64(len(s.order.Up))) > 20000 {
				continue // by the definition this takes long
			}
			want := aboveOf(s.order).functions(aboveOf(r.order))
			wantFunctions(t, s.name+" to "+r.name, s.order, r.order, want)
			if len(want) > impl.ElementsMax {
				none++
			} else {
				some++
			}
		}
	}
	if some < 50 || none < 5 {
		t.Errorf("%d pairs with functions, %d with too many", some, none)
	}
}

// P18: the lists ascend, and one function is above another one exactly if it is for each element.
func TestFunctionsAscend(t *testing.T) {
	for _, c := range [][2]impl.Order{{flat(2), flat(2)}, {fallingChain(3), flat(3)}, {chain(18), fallingChain(3)}, {chain(3), chain(8)}} {
		funs, ok := impl.DomainFuns(c[0], c[1])
		fun, fine := impl.DomainFun(c[0], c[1])
		if !ok || !fine || len(fun.Up) != len(funs) {
			t.Fatalf("%d functions, %d elements", len(funs), len(fun.Up))
		}
		for i, list := range funs {
			if i > 0 && slices.Compare(funs[i-1], list) >= 0 {
				t.Errorf("%v is behind %v", list, funs[i-1])
			}
			for k, other := range funs {
				each := true
				for m := range list {
					each = each && impl.OrderBelow(c[1], list[m], other[m])
				}
				if slices.Contains(fun.Up[i], k) != each {
					t.Errorf("%v and %v: %v", list, other, !each)
				}
			}
		}
	}
}

// P23: the least element is the function of least elements, whatever its index.
func TestFunctionDomainLeast(t *testing.T) {
	for _, s := range namedDomains(t) {
		for _, r := range namedDomains(t) {
			fun, ok := impl.DomainFun(s.order, r.order)
			if !ok {
				continue
			}
			least := impl.DomainIndex(s.order, r.order, repeated(impl.OrderLeast(r.order), len(s.order.Up)))
			if !impl.DomainIs(fun) || least < 0 || impl.OrderLeast(fun) != least {
				t.Errorf("%s to %s: OrderLeast = %d, the function of least elements %d", s.name, r.name, impl.OrderLeast(fun), least)
			}
		}
	}
}

// P18, P23: functions of a chain to a chain are as many as the ways to choose.
func TestFunctionsOfChains(t *testing.T) {
	for n := 1; n <= 30; n++ {
		for m := 1; m <= 30; m++ {
			want := choose(n+m-1, min(n, m-1))
			for _, c := range [][2]impl.Order{{chain(n), chain(m)}, {fallingChain(n), fallingChain(m)}, {chain(n), fallingChain(m)}} {
				funs, ok := impl.DomainFuns(c[0], c[1])
				if ok != (want <= impl.ElementsMax) || ok && len(funs) != want {
					t.Errorf("chains of %d and %d: %d functions, %v, want %d", n, m, len(funs), ok, want)
				}
			}
		}
	}
}

// P18, P23: just ElementsMax functions, and one more; some have few steps, and some have hardly others.
func TestFunctionsLimit(t *testing.T) {
	lifted := func(times int, d impl.Order) impl.Order {
		for range times {
			d = aboveOf(d).lift().order()
		}
		return d
	}
	tree := must(t, [][]int{{1}, {2, 3}, {}, {4, 7}, {5}, {6}, {}, {8}, {}})
	for _, c := range []struct {
		name string
		d, e impl.Order
		want int
	}{
		{"1 to chain of 200", chain(1), chain(200), 200},
		{"1 to flat of 199", chain(1), flat(199), 200},
		{"chain of 199 to chain of 2", chain(199), chain(2), 200},
		{"falling chain of 199 to chain of 2", fallingChain(199), chain(2), 200},
		{"chain of 2 to a flat domain lifted", chain(2), lifted(3, flat(38)), 200},
		{"flat of 2 to a flat domain lifted", flat(2), lifted(2, flat(6)), 200},
		{"chain of 200 to 1", chain(200), chain(1), 1},
		{"flat of 199 to 1", flat(199), chain(1), 1},
		{"flat of 7 to chain of 2", flat(7), chain(2), 129},
		{"chain of 200 to chain of 2", chain(200), chain(2), 201},
		{"chain of 2 to flat of 100", chain(2), flat(100), 201},
		{"chain of 2 to a lifted flat domain", chain(2), lifted(1, flat(66)), 201},
		{"flat of 2 to a tree", flat(2), tree, 201},
		{"flat of 8 to chain of 2", flat(8), chain(2), 257},
	} {
		if c.want > impl.ElementsMax {
			wantNoFunctions(t, c.name, c.d, c.e)
			continue
		}
		funs, ok := impl.DomainFuns(c.d, c.e)
		if !ok || len(funs) != c.want {
			t.Errorf("%s: %d functions, %v, want %d", c.name, len(funs), ok, c.want)
		}
		fun, ok := impl.DomainFun(c.d, c.e)
		wantOrder(t, c.name, fun, ok, aboveOf(c.e).pointwise(funs).order())
	}
}

// P18: domains whose functions are by far too many are refused, and soon.
func TestFunctionsOfLargeDomains(t *testing.T) {
	top := make([][]int, 200) // a least element 1, a greatest one 0, and all others between
	for i := range top {
		if i > 1 {
			top[i], top[1] = []int{0}, append(top[1], i)
		}
	}
	wide := must(t, top)
	all := []sample{{"chain", chain(200)}, {"falling chain", fallingChain(200)}, {"flat", flat(199)}, {"wide", wide}}
	for _, s := range all {
		for _, r := range all {
			wantNoFunctions(t, s.name+" to "+r.name, s.order, r.order)
		}
		wantNoFunctions(t, s.name+" to two", s.order, chain(2))
		wantNoFunctions(t, "two to "+s.name, chain(2), s.order)
	}
}

// P19: what is no function has no index.
func TestDomainIndexOfOthers(t *testing.T) {
	for _, s := range smallDomains(3) {
		for _, r := range smallDomains(3) {
			n, m := len(s.order.Up), len(r.order.Up)
			funs, _ := impl.DomainFuns(s.order, r.order)
			for _, list := range allLists(n, m+1) {
				at := impl.DomainIndex(s.order, r.order, list)
				if at >= 0 && (at >= len(funs) || !slices.Equal(funs[at], list)) || (at >= 0) != aboveOf(s.order).monotone(aboveOf(r.order), list) || at < -1 {
					t.Errorf("%s to %s: DomainIndex of %v = %d", s.name, r.name, list, at)
				}
			}
			for _, list := range [][]int{nil, {}, repeated(0, n-1), repeated(0, n+1), repeated(-1, n), repeated(m, n), repeated(math.MinInt, n), repeated(math.MaxInt, n)} {
				if at := impl.DomainIndex(s.order, r.order, list); at != -1 {
					t.Errorf("%s to %s: DomainIndex of %v = %d", s.name, r.name, list, at)
				}
			}
		}
	}
}

// P22, P24: against the definition, for small domains.
func TestCurryAndUncurry(t *testing.T) {
	small := append(smallDomains(2), sample{"flat of 2", flat(2)}, sample{"least is 2", must(t, [][]int{{}, {}, {0, 1}})})
	for _, s := range small {
		for _, r := range small {
			for _, q := range small {
				d, e, f := s.order, r.order, q.order
				funs, ok := impl.DomainFuns(e, f)
				if !ok {
					t.Fatalf("%s to %s: no functions", r.name, q.name)
				}
				wantCurried(t, fmt.Sprint(s.name, r.name, q.name), d, e, f, funs)
			}
		}
	}
}

// wantCurried fails if one of both functions, for three domains and the functions of the second to the third one, is not the other one turned round.
func wantCurried(t *testing.T, what string, d impl.Order, e impl.Order, f impl.Order, funs [][]int) {
	t.Helper()
	product := aboveOf(d).product(aboveOf(e))
	to := aboveOf(f).pointwise(funs)
	curried := 0
	lists := aboveOf(d).functions(to)
	for _, list := range lists {
		var want []int
		for _, k := range list {
			want = append(want, funs[k]...)
		}
		got, ok := impl.DomainUncurry(d, e, f, list)
		if !ok || !slices.Equal(got, want) || !product.monotone(aboveOf(f), got) {
			t.Errorf("%s: DomainUncurry of %v = %v, %v, want %v", what, list, got, ok, want)
		}
		if back, fine := impl.DomainCurry(d, e, f, got); !fine || !slices.Equal(back, list) {
			t.Errorf("%s: DomainCurry of %v = %v, %v, want %v", what, got, back, fine, list)
		}
		curried++
	}
	if len(product) > 6 {
		return // by the definition this takes long
	}
	if all := product.functions(aboveOf(f)); len(all) != curried {
		t.Errorf("%s: %d functions of the product, %d curried", what, len(all), curried)
	}
}

// P22, P24: lists that are no such functions.
func TestCurryAndUncurryOtherLists(t *testing.T) {
	for _, s := range smallDomains(2) {
		for _, r := range smallDomains(2) {
			e, f := r.order, flat(2)
			pairs := aboveOf(s.order).product(aboveOf(e))
			for _, list := range allLists(len(pairs), 3) {
				if got, ok := impl.DomainCurry(s.order, e, f, list); ok != pairs.monotone(aboveOf(f), list) || !ok && len(got) != 0 {
					t.Errorf("%s, %s: DomainCurry of %v = %v, %v", s.name, r.name, list, got, ok)
				}
			}
			funs, _ := impl.DomainFuns(e, f)
			to := aboveOf(f).pointwise(funs)
			for _, list := range allLists(len(s.order.Up), len(funs)) {
				if got, ok := impl.DomainUncurry(s.order, e, f, list); ok != aboveOf(s.order).monotone(to, list) || !ok && len(got) != 0 {
					t.Errorf("%s, %s: DomainUncurry of %v = %v, %v", s.name, r.name, list, got, ok)
				}
			}
		}
	}
}

// P22, P24: lists of another length, and numbers out of range.
func TestCurryAndUncurryWrongLists(t *testing.T) {
	d, e, f := flat(1), flat(2), flat(3)
	funs, _ := impl.DomainFuns(e, f)
	for _, c := range []struct {
		name   string
		pairs  []int
		single []int
	}{
		{"nil", nil, nil},
		{"empty", []int{}, []int{}},
		{"too short", repeated(0, 5), repeated(0, 1)},
		{"too long", repeated(0, 7), repeated(0, 3)},
		{"negative", repeated(-1, 6), repeated(-1, 2)},
		{"very negative", repeated(math.MinInt, 6), repeated(math.MinInt, 2)},
		{"one too great", repeated(4, 6), repeated(len(funs), 2)},
		{"too great in the last place", append(repeated(0, 5), 4), []int{0, len(funs)}},
		{"far too great", repeated(math.MaxInt, 6), repeated(math.MaxInt, 2)},
	} {
		list, ok := impl.DomainCurry(d, e, f, c.pairs)
		wantNoList(t, c.name+": DomainCurry", list, ok)
		list, ok = impl.DomainUncurry(d, e, f, c.single)
		wantNoList(t, c.name+": DomainUncurry", list, ok)
	}
}

// P22, P24: the limits of the product and of the function domain.
func TestCurryAndUncurryLimits(t *testing.T) {
	for _, c := range []struct {
		name           string
		d, e, f        impl.Order
		curry, uncurry bool
	}{
		{"product of 200", chain(10), chain(20), chain(1), true, true},
		{"product of 201", chain(3), chain(67), chain(1), false, true},
		{"product of 400", chain(200), chain(2), chain(1), false, true},
		{"product of 40000", fallingChain(200), flat(199), chain(1), false, true},
		{"200 functions", chain(1), chain(199), chain(2), true, true},
		{"201 functions", chain(1), chain(200), chain(2), false, false},
		{"200 functions of one element", chain(200), chain(1), flat(199), true, true},
		{"201 functions to a flat domain", chain(2), flat(1), flat(100), false, false},
	} {
		pairs := repeated(0, len(c.d.Up)*len(c.e.Up))
		single := repeated(0, len(c.d.Up))
		list, ok := impl.DomainCurry(c.d, c.e, c.f, pairs)
		if ok != c.curry || ok && !slices.Equal(list, single) || !ok && len(list) != 0 {
			t.Errorf("%s: DomainCurry = %v, %v", c.name, list, ok)
		}
		list, ok = impl.DomainUncurry(c.d, c.e, c.f, single)
		if ok != c.uncurry || ok && !slices.Equal(list, pairs) || !ok && len(list) != 0 {
			t.Errorf("%s: DomainUncurry = %d numbers, %v", c.name, len(list), ok)
		}
	}
}

// P22: where the product is not valid, the function is uncurried all the same.
func TestUncurryPastTheProduct(t *testing.T) {
	d, e, f := chain(101), chain(2), chain(2)
	list := append(repeated(0, 50), append(repeated(1, 1), repeated(2, 50)...)...)
	want := append(repeated(0, 101), repeated(1, 101)...)
	got, ok := impl.DomainUncurry(d, e, f, list)
	if !ok || !slices.Equal(got, want) {
		t.Errorf("DomainUncurry = %v, %v", got, ok)
	}
	curried, ok := impl.DomainCurry(d, e, f, got)
	wantNoList(t, "DomainCurry", curried, ok)
	slices.Reverse(list)
	falling, ok := impl.DomainUncurry(d, e, f, list)
	wantNoList(t, "DomainUncurry of a list that falls", falling, ok)
}
