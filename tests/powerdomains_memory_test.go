package tests

import (
	"slices"
	"testing"

	"loop.example/scottdomains/impl"
)

// powerUse is what the functions of the chapter are called with.
type powerUse struct {
	d, e    impl.Order
	kind    string
	f, list []int
}

// lists returns all lists of the arguments.
func (u powerUse) lists() [][]int {
	return slices.Concat(u.d.Up, u.e.Up, [][]int{u.f, u.list})
}

// cloned returns the same arguments in new memory.
func (u powerUse) cloned() powerUse {
	return powerUse{
		d: impl.Order{Up: cloneLists(u.d.Up)}, e: impl.Order{Up: cloneLists(u.e.Up)},
		kind: u.kind, f: slices.Clone(u.f), list: slices.Clone(u.list),
	}
}

// results calls each function of the chapter, and returns the lists of all results.
func (u powerUse) results() [][]int {
	sets, _ := impl.PowerSets(u.d, u.kind)
	order, _ := impl.PowerOrder(u.d, u.kind)
	impl.PowerClose(u.d, u.kind, 1)
	ones, _ := impl.PowerOne(u.d, u.kind)
	impl.PowerUnion(u.d, u.kind, 0, 0)
	mapped, _ := impl.PowerMap(u.d, u.e, u.kind, u.f)
	extended, _ := impl.PowerExtend(u.d, u.e, u.kind, u.list)
	impl.PowerBelow(u.d, u.kind, 1, 1)
	return append(slices.Clone(order.Up), sets, ones, mapped, extended)
}

// powerUses returns arguments with which all functions succeed.
func powerUses(t *testing.T) []powerUse {
	t.Helper()
	var all []powerUse
	domains := append(namedDomains(t), sevens(t)...)
	for i, s := range domains {
		r := domains[(i*5+2)%len(domains)]
		for _, kind := range kinds() {
			least := impl.OrderLeast(r.order)
			all = append(all, powerUse{s.order, r.order, kind, repeated(least, len(s.order.Up)), repeated(1, len(s.order.Up))})
			all = append(all, powerUse{s.order, s.order, kind, identity(len(s.order.Up)), repeated(0, len(s.order.Up))})
		}
	}
	return all
}

// P49 to P56: no function changes its arguments, valid or not.
func TestPowerArgumentsStay(t *testing.T) {
	uses := powerUses(t)
	for _, s := range noPowers(t) {
		n := len(s.order.Up)
		uses = append(uses, powerUse{s.order, s.order, "lower", repeated(0, n), repeated(-1, n)}, powerUse{chain(2), s.order, "convex", []int{1, 0}, []int{0, 9}})
	}
	for _, kind := range noKinds() {
		uses = append(uses, powerUse{chain(2), chain(3), kind, []int{0, 2}, []int{1, 0}})
	}
	for _, u := range uses {
		wantArgumentsStay(t, u.kind, u)
	}
}

// P49 to P55: no result shares memory with an argument or with another one.
func TestPowerResultsAreSeparate(t *testing.T) {
	for _, u := range powerUses(t) {
		wantResultsSeparate(t, u.kind, u)
	}
}

// P52, P54, P55: a result that is equal to an argument is another list.
func TestPowerResultsAreNew(t *testing.T) {
	d, list := chain(3), []int{0, 1, 2}
	ones, _ := impl.PowerOne(d, "lower")
	mapped, _ := impl.PowerMap(d, d, "lower", list)
	extended, _ := impl.PowerExtend(d, d, "lower", list)
	if !slices.Equal(ones, list) || !slices.Equal(mapped, list) || !slices.Equal(extended, list) {
		t.Fatalf("PowerOne %v, PowerMap %v, PowerExtend %v", ones, mapped, extended)
	}
	wantSeparate(t, "equal lists", append(slices.Clone(d.Up), list, ones, mapped, extended)...)
}

// No state is kept: a call tells the same after the results of others were changed.
func TestPowerCallsKeepNothing(t *testing.T) {
	for _, u := range powerUses(t) {
		wantNothingKept(t, u.kind, u.results)
	}
}
