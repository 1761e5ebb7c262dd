package tests

import (
	"slices"
	"testing"

	"loop.example/scottdomains/impl"
)

// P37 to P40: an invalid system is refused by each function of one system.
func TestInvalidInfos(t *testing.T) {
	for _, s := range invalidInfos() {
		if impl.InfoValid(s.info) {
			t.Errorf("%s: valid", s.name)
		}
		for set := -1; set <= 65; set++ {
			if all := impl.InfoEntails(s.info, set); all != -1 {
				t.Errorf("%s: InfoEntails of %d = %d", s.name, set, all)
			}
		}
		for _, set := range s.info.Con {
			if all := impl.InfoEntails(s.info, set); all != -1 {
				t.Errorf("%s: InfoEntails of %d = %d", s.name, set, all)
			}
		}
		elements, ok := impl.InfoElements(s.info)
		wantNoList(t, s.name+": InfoElements", elements, ok)
		d, ok := impl.InfoDomain(s.info)
		wantNoOrder(t, s.name+": InfoDomain", d, ok)
	}
}

// P44 to P48: an invalid system is refused in each place, with lists that might fit.
func TestInvalidInfosBesideOthers(t *testing.T) {
	one, empty := madeFrom(1, nil, nil), madeFrom(1, nil, []rule{{0, 0}})
	for _, s := range invalidInfos() {
		for _, good := range []impl.Info{one, empty} {
			for _, c := range [][2]impl.Info{{s.info, good}, {good, s.info}, {s.info, s.info}} {
				for _, list := range listsThatMightFit(s.info, c[0], c[1]) {
					wantNoRelation(t, s.name, c[0], c[1], list)
				}
				for _, n := range []int{0, 1, 2, 3, len(s.info.Con)} {
					for _, f := range [][]int{repeated(0, n), identity(n)} {
						list, ok := impl.RelationOf(c[0], c[1], f)
						wantNoList(t, s.name+": RelationOf", list, ok)
					}
				}
				both, ok := impl.InfoTimes(c[0], c[1])
				wantNoInfo(t, s.name+": InfoTimes", both, ok)
			}
		}
	}
}

// listsThatMightFit returns lists as long as what a system, and another one that is invalid, call consistent.
func listsThatMightFit(invalid impl.Info, s impl.Info, r impl.Info) [][]int {
	var lists [][]int
	for _, n := range []int{0, 1, len(s.Con), len(s.Entail), len(invalid.Con)} {
		lists = append(lists, repeated(0, n), repeated(1, n))
		if len(r.Entail) > 0 {
			lists = append(lists, repeated(r.Entail[0], n))
		}
	}
	return append(lists, slices.Clone(s.Con), slices.Clone(s.Entail))
}

// P47: an invalid system is refused in each of three places.
func TestInvalidInfosInRelationAfter(t *testing.T) {
	one := madeFrom(1, nil, nil)
	for _, s := range invalidInfos() {
		n := len(s.info.Con)
		for _, c := range []struct {
			s, r, q       impl.Info
			first, second []int
		}{
			{s.info, one, one, repeated(0, n), one.Con},
			{one, s.info, one, repeated(0, 2), repeated(0, n)},
			{one, one, s.info, one.Con, repeated(0, 2)},
			{one, one, s.info, one.Con, repeated(1, 2)},
			{s.info, s.info, s.info, s.info.Entail, s.info.Entail},
			{s.info, s.info, s.info, repeated(0, n), repeated(0, n)},
		} {
			list, ok := impl.RelationAfter(c.s, c.r, c.q, c.first, c.second)
			wantNoList(t, s.name+": RelationAfter", list, ok)
		}
	}
}
