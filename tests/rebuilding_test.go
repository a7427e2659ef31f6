package tests

import (
	"slices"
	"testing"

	"loop.example/g00022/impl"
)

// Promise 19: what each feature becomes.

const ftOk, ftRefused, ftLost = int64(impl.FtOk), int64(impl.FtRefused), int64(impl.FtLost)

type buildCase struct {
	name    string
	h       impl.History
	codes   []int64
	volumes []string
}

func codes(list ...int64) []int64 { return list }

func volumes(list ...string) []string { return list }

// star goes round with seven crossings; its outline has twenty places.
func star() []int64 { return []int64{0, 0, 10, 1, 1, 8, 5, -3, 9, 9, 0, 5} }

func makingCases() []buildCase {
	box := func(n ...int64) impl.History { return hs(ft(1, impl.FtBox, 0, 0, n...)) }
	prism := func(n ...int64) impl.History { return hs(ft(1, impl.FtPrism, 0, 0, n...)) }
	two := func(kind int64, n ...int64) impl.History {
		return hs(ft(1, impl.FtBox, 0, 0, 0, 0, 0, 2, 2, 2), ft(2, impl.FtBox, 0, 0, n...), ft(3, kind, 1, 2))
	}
	return []buildCase{
		{"nothing", hs(), nil, nil},
		{"a box", box(0, 1, 2, 3, 5, 7), codes(ftOk), volumes("60")},
		{"a box without width", box(3, 1, 2, 3, 5, 7), codes(ftRefused), volumes("0")},
		{"a box turned over in X", box(4, 1, 2, 3, 5, 7), codes(ftRefused), volumes("0")},
		{"a box without depth", box(0, 5, 2, 3, 5, 7), codes(ftRefused), volumes("0")},
		{"a box turned over in Y", box(0, 6, 2, 3, 5, 7), codes(ftRefused), volumes("0")},
		{"a box without height", box(0, 1, 7, 3, 5, 7), codes(ftRefused), volumes("0")},
		{"a box turned over in Z", box(0, 1, 8, 3, 5, 7), codes(ftRefused), volumes("0")},
		{"a prism", prism(1, 3, 0, 0, 4, 0, 0, 4), codes(ftOk), volumes("16")},
		{"a prism of four", prism(1, 3, 0, 0, 4, 0, 4, 4, 0, 4), codes(ftOk), volumes("32")},
		{"a prism of five", prism(0, 1, 0, 0, 4, 0, 4, 4, 2, 6, 0, 4), codes(ftOk), volumes("20")},
		{"a prism of six", prism(0, 1, 0, 0, 4, 0, 4, 4, 2, 4, 2, 2, 0, 2), codes(ftOk), volumes("12")},
		{"gone round the other way", prism(1, 3, 0, 4, 4, 0, 0, 0), codes(ftOk), volumes("16")},
		{"a prism without height", prism(3, 3, 0, 0, 4, 0, 0, 4), codes(ftRefused), volumes("0")},
		{"a prism turned over", prism(4, 3, 0, 0, 4, 0, 0, 4), codes(ftRefused), volumes("0")},
		{"a loop on one line", prism(1, 3, 0, 0, 4, 4, 2, 2), codes(ftOk), volumes("0")},
		{"a loop at one place", prism(1, 3, 1, 1, 1, 1, 1, 1), codes(ftOk), volumes("0")},
		{"a loop on one line, turned over", prism(3, 1, 0, 0, 4, 4, 2, 2), codes(ftRefused), volumes("0")},
		{"a loop that crosses itself", prism(0, 1, 0, 0, 4, 4, 4, 0, 0, 4), codes(ftOk), volumes("8")},
		{"a place twice in a row", prism(0, 1, 0, 0, 4, 0, 4, 0, 0, 4), codes(ftOk), volumes("8")},
		{"a place twice", prism(0, 1, 0, 0, 2, 0, 2, 2, 0, 0, -2, -2, -2, 0), codes(ftOk), volumes("4")},
		{"there and back again", prism(0, 1, 0, 0, 2, 0, 2, 2, 2, 0, 0, 0, 0, 2), codes(ftOk), volumes("0")},
		{"united", two(impl.FtUnite, 1, 1, 1, 3, 3, 3), codes(ftOk, ftOk, ftOk), volumes("8", "8", "15")},
		{"cut", two(impl.FtCut, 1, 1, 1, 3, 3, 3), codes(ftOk, ftOk, ftOk), volumes("8", "8", "7")},
		{"in common", two(impl.FtCommon, 1, 1, 1, 3, 3, 3), codes(ftOk, ftOk, ftOk), volumes("8", "8", "1")},
		{"nothing left", two(impl.FtCut, -1, -1, -1, 3, 3, 3), codes(ftOk, ftOk, ftOk), volumes("8", "64", "0")},
		{"nothing in common", two(impl.FtCommon, 2, 0, 0, 3, 3, 3), codes(ftOk, ftOk, ftOk), volumes("8", "9", "0")},
		{"of what is empty", hs(ft(1, impl.FtPrism, 0, 0, 0, 1, 0, 0, 0, 0, 0, 0), ft(2, impl.FtMove, 1, 0, 1, 1, 1), ft(3, impl.FtHalf, 2, 0, 1, 0, 0, 0), ft(4, impl.FtUnite, 3, 1)),
			codes(ftOk, ftOk, ftOk, ftOk), volumes("0", "0", "0", "0")},
		{"with itself", hs(ft(1, impl.FtBox, 0, 0, 0, 0, 0, 2, 2, 2), ft(2, impl.FtUnite, 1, 1), ft(3, impl.FtCut, 1, 2), ft(4, impl.FtCommon, 2, 1)), codes(ftOk, ftOk, ftOk, ftOk), volumes("8", "8", "0", "8")},
		{"moved", hs(ft(1, impl.FtBox, 0, 0, 0, 0, 0, 2, 2, 2), ft(2, impl.FtMove, 1, 0, 1, 1, 1), ft(3, impl.FtCommon, 1, 2)), codes(ftOk, ftOk, ftOk), volumes("8", "8", "1")},
		{"stars", hs(ft(1, impl.FtPrism, 0, 0, slices.Concat([]int64{0, 1}, star())...), ft(2, impl.FtMove, 1, 0, 20, 0, 0), ft(3, impl.FtUnite, 1, 2), ft(4, impl.FtCut, 1, 3), ft(5, impl.FtCut, 1, 2)),
			codes(ftOk, ftOk, ftRefused, ftLost, ftOk), nil},
	}
}

func halfCases() []buildCase {
	half := func(n ...int64) impl.History {
		return hs(ft(1, impl.FtBox, 0, 0, 0, 0, 0, 4, 4, 4), ft(2, impl.FtHalf, 1, 0, n...))
	}
	return []buildCase{
		{"through, by A", half(2, 0, 0, 2), codes(ftOk, ftOk), volumes("64", "16")},
		{"through, by A below 0", half(-2, 0, 0, -2), codes(ftOk, ftOk), volumes("64", "48")},
		{"through, by B", half(0, 3, 0, 6), codes(ftOk, ftOk), volumes("64", "32")},
		{"through, by B below 0", half(0, -3, 0, -3), codes(ftOk, ftOk), volumes("64", "48")},
		{"through, by C", half(0, 0, 5, 15), codes(ftOk, ftOk), volumes("64", "48")},
		{"through, by C below 0", half(0, 0, -5, -15), codes(ftOk, ftOk), volumes("64", "16")},
		{"aslant", half(3, 3, 0, 12), codes(ftOk, ftOk), volumes("64", "32")},
		{"aslant, A below 0", half(-3, 3, 0, 0), codes(ftOk, ftOk), volumes("64", "32")},
		{"aslant, by B", half(0, -2, 2, 0), codes(ftOk, ftOk), volumes("64", "32")},
		{"a corner off", half(2, 2, 2, 22), codes(ftOk, ftOk), volumes("64", "383/6")},
		{"all of it", half(7, 0, 0, 70), codes(ftOk, ftOk), volumes("64", "64")},
		{"none of it", half(7, 0, 0, -70), codes(ftOk, ftOk), volumes("64", "0")},
		{"along a side, all of it", half(0, 2, 0, 8), codes(ftOk, ftOk), volumes("64", "64")},
		{"along a side, none of it", half(0, -2, 0, -8), codes(ftOk, ftOk), volumes("64", "0")},
		{"no plane", half(0, 0, 0, 1), codes(ftOk, ftRefused), volumes("64", "0")},
		{"nothing at all", half(0, 0, 0, 0), codes(ftOk, ftRefused), volumes("64", "0")},
	}
}

// lostCases have features that others are made of, and that are refused or lost.
func lostCases() []buildCase {
	box, none := ft(1, impl.FtBox, 0, 0, 0, 0, 0, 2, 2, 2), ft(2, impl.FtBox, 0, 0, 0, 0, 0, 2, 2, 0)
	far := impl.Term{Param: 0, By: q(2, 1), Add: q(0, 1)}
	wide := func(f impl.Feat, i int) impl.Feat { return having(f, i, far) }
	great := func(feats ...impl.Feat) impl.History { return impl.History{Params: []impl.Q{q(top, 1)}, Feats: feats} }
	move := func(id, on int64) impl.Feat { return ft(id, impl.FtMove, on, 0, 1, 0, 0) }
	half := func(id, on int64) impl.Feat { return ft(id, impl.FtHalf, on, 0, 1, 0, 0, 1) }
	list := []buildCase{
		{"on one that is refused", hs(box, none, ft(3, impl.FtUnite, 2, 1)), codes(ftOk, ftRefused, ftLost), nil},
		{"with one that is refused", hs(box, none, ft(3, impl.FtCut, 1, 2)), codes(ftOk, ftRefused, ftLost), nil},
		{"both refused", hs(box, none, ft(3, impl.FtCommon, 2, 2)), codes(ftOk, ftRefused, ftLost), nil},
		{"on one that is lost", hs(box, none, move(3, 2), half(4, 3), ft(5, impl.FtUnite, 1, 4), ft(6, impl.FtCut, 3, 1)), codes(ftOk, ftRefused, ftLost, ftLost, ftLost, ftLost), nil},
		{"beside one that is lost", hs(box, none, move(3, 2), move(4, 1)), codes(ftOk, ftRefused, ftLost, ftOk), volumes("8", "0", "0", "8")},
		{"no number", great(wide(box, 3)), codes(ftRefused), nil},
		{"no number, of a move", great(box, wide(move(2, 1), 0), wide(move(3, 1), 1), wide(move(4, 1), 2)), codes(ftOk, ftRefused, ftRefused, ftRefused), nil},
		{"no number, of a half", great(box, wide(half(2, 1), 0), wide(half(3, 1), 1), wide(half(4, 1), 2), wide(half(5, 1), 3)), codes(ftOk, ftRefused, ftRefused, ftRefused, ftRefused), nil},
		{"no number, of a prism", great(wide(ft(1, impl.FtPrism, 0, 0, 0, 1, 0, 0, 2, 0, 0, 2), 7)), codes(ftRefused), nil},
		{"no number, and lost", great(box, none, wide(move(3, 2), 1), wide(half(4, 3), 3)), codes(ftOk, ftRefused, ftLost, ftLost), nil},
		{"moved too far", great(box, having(move(2, 1), 0, par(0, 1, 0)), having(move(3, 1), 2, par(0, 1, -2))), codes(ftOk, ftRefused, ftOk), nil},
		{"a plane that is none", hs(box, having(half(2, 1), 3, impl.Term{Param: -1, By: q(0, 1), Add: q(1, top)}), having(having(half(3, 1), 0, con(3)), 3, impl.Term{Param: -1, By: q(0, 1), Add: q(1, top-1)})),
			codes(ftOk, ftOk, ftRefused), nil},
		{"a plane with a B that is none", hs(box, having(having(half(2, 1), 0, con(7)), 1, impl.Term{Param: -1, By: q(0, 1), Add: q(1, top)})), codes(ftOk, ftRefused), nil},
	}
	return append(list, []buildCase{
		{"off: a box and a prism", hs(off(box), off(ft(2, impl.FtPrism, 0, 0, 0, 1, 0, 0, 2, 0, 0, 2))), codes(ftOk, ftOk), volumes("0", "0")},
		{"off: ones that would be refused", great(off(wide(box, 3)), off(none)), codes(ftOk, ftOk), volumes("0", "0")},
		{"off: a join", hs(box, ft(2, impl.FtBox, 0, 0, 0, 0, 0, 1, 1, 1), off(ft(3, impl.FtCut, 1, 2)), off(ft(4, impl.FtCommon, 2, 1)), off(ft(5, impl.FtUnite, 2, 1))), codes(ftOk, ftOk, ftOk, ftOk, ftOk), volumes("8", "1", "8", "1", "1")},
		{"off: a move and a half", hs(box, off(move(2, 1)), off(half(3, 1)), ft(4, impl.FtCommon, 2, 1)), codes(ftOk, ftOk, ftOk, ftOk), volumes("8", "8", "8", "8")},
		{"off: no number", great(box, off(wide(move(2, 1), 0)), off(wide(half(3, 1), 0)), off(ft(4, impl.FtHalf, 1, 0, 0, 0, 0, 0))), codes(ftOk, ftOk, ftOk, ftOk), volumes("8", "8", "8", "8")},
		{"off, on one that is off", hs(box, off(move(2, 1)), off(half(3, 2)), half(4, 3)), codes(ftOk, ftOk, ftOk, ftOk), volumes("8", "8", "8", "4")},
		{"on one that is off", hs(off(box), move(2, 1), half(3, 2), ft(4, impl.FtUnite, 3, 1)), codes(ftOk, ftOk, ftOk, ftOk), volumes("0", "0", "0", "0")},
		{"off, on one that is refused", hs(box, none, off(move(3, 2)), off(ft(4, impl.FtUnite, 2, 1)), off(half(5, 3))), codes(ftOk, ftRefused, ftRefused, ftRefused, ftRefused), nil},
		{"on one that is off and refused", hs(box, none, off(move(3, 2)), half(4, 3)), codes(ftOk, ftRefused, ftRefused, ftLost), nil},
		{"off, on one that is lost", hs(box, none, move(3, 2), off(half(4, 3)), half(5, 4)), codes(ftOk, ftRefused, ftLost, ftLost, ftLost), nil},
		{"off, with one that is refused", hs(box, none, off(ft(3, impl.FtCut, 1, 2)), half(4, 3)), codes(ftOk, ftRefused, ftOk, ftOk), volumes("8", "0", "8", "4")},
	}...)
}

func TestRebuildByHand(t *testing.T) {
	for _, c := range slices.Concat(makingCases(), halfCases(), lostCases()) {
		list := checkBuilt(t, c.name, c.h)
		if !slices.Equal(codesOf(list), c.codes) || c.volumes != nil && !slices.Equal(volumesOf(list), c.volumes) {
			t.Error(c.name, "has", codesOf(list), volumesOf(list), "not", c.codes, c.volumes)
		}
	}
}

func TestRebuildOfParameters(t *testing.T) {
	want := map[string]impl.Solid{}
	for name, n := range map[string][6]int64{"wide": {0, 0, 0, 4, 3, 2}, "wider": {0, 0, 0, 8, 3, 2}} {
		want[name], _ = impl.Box(v3(n[0], n[1], n[2]), v3(n[3], n[4], n[5]))
	}
	h := workshop()
	list := checkBuilt(t, "the workshop", h)
	if !slices.Equal(codesOf(list), codes(0, 0, 0, 0, 0, 0, 0, 0)) || !sameSolids(list[0].Solid, want["wide"]) {
		t.Error("the workshop is", list)
	}
	h.Params = []impl.Q{q(8, 1), q(3, 1), q(1, 2)}
	if list := checkBuilt(t, "a wide workshop", h); !sameSolids(list[0].Solid, want["wider"]) {
		t.Error("the wide workshop is", list[0])
	}
	// By and Add are both taken, and what is too great on the way does no harm.
	fine := impl.History{Params: []impl.Q{q(top, 1), q(1, 3)}, Feats: []impl.Feat{
		having(having(ft(1, impl.FtBox, 0, 0, 0, 0, 0, 5, 5, 5), 3, impl.Term{Param: 0, By: q(1, top/2), Add: q(1, 2)}), 4, par(1, -2, 1)),
		having(having(ft(2, impl.FtBox, 0, 0, 0, 0, 0, 5, 5, 5), 3, impl.Term{Param: 0, By: q(2, 1), Add: q(-top, 1)}), 4, par(1, 0, 7)),
	}}
	if list := checkBuilt(t, "fractions", fine); !slices.Equal(volumesOf(list), volumes("25/6", "35000000000000000000")) {
		t.Error("fractions", volumesOf(list))
	}
	for _, params := range [][]int64{{0, 3, 1}, {4, 0, 1}, {-1, 2, 0}, {4, 1, 1}, {1, 1, 1}, {9, 9, -3}} {
		checkBuilt(t, params, withParams(workshop(), params...))
	}
}

// anyFeat is a feature that can stand behind those of h; most of them can be made.
func (d *dice) anyFeat(h impl.History, id int64) impl.Feat {
	kind := 1 + int64(d.next()%7)
	if len(h.Feats) == 0 || d.next()%4 == 0 {
		kind = 1 + int64(d.next()%2)
	}
	f := impl.Feat{Id: id, Kind: kind, Off: d.next()%9 == 0}
	if kind >= impl.FtUnite {
		f.On = h.Feats[d.next()%uint64(len(h.Feats))].Id
	}
	if f.On > 0 && kind <= impl.FtCommon {
		f.With = h.Feats[d.next()%uint64(len(h.Feats))].Id
	}
	var numbers []int64
	switch kind {
	case impl.FtBox:
		lo := [3]int64{d.upTo(2), d.upTo(2), d.upTo(2)}
		numbers = append(lo[:], lo[0]+2+d.upTo(1), lo[1]+2+d.upTo(1), lo[2]+2+d.upTo(1))
		if d.next()%7 == 0 {
			numbers[3+d.next()%3] = -2
		}
	case impl.FtPrism:
		lo := d.upTo(2)
		numbers = []int64{lo, lo + 2 + d.upTo(1)}
		for range 3 + d.next()%4 {
			numbers = append(numbers, d.upTo(2), d.upTo(2))
		}
	case impl.FtMove:
		numbers = []int64{d.upTo(1), d.upTo(1), d.upTo(1)}
	case impl.FtHalf:
		numbers = []int64{d.upTo(1), d.upTo(1), d.upTo(2), d.upTo(2)}
	}
	for _, n := range numbers {
		f.Nums = append(f.Nums, d.anyTerm(h, n))
	}
	return f
}

// anyTerm is a number that is n, or next to it, of a parameter or of none.
func (d *dice) anyTerm(h impl.History, n int64) impl.Term {
	if len(h.Params) == 0 || d.next()%3 > 0 {
		return con(n)
	}
	at := int64(d.next() % uint64(len(h.Params)))
	add, _ := asQ(minusRat(rat(q(n, 1)), rat(h.Params[at])))
	return impl.Term{Param: at, By: q(1, 1), Add: add}
}

func (d *dice) history(count int) impl.History {
	var h impl.History
	for range d.next() % 4 {
		h.Params = append(h.Params, firstQ(impl.QOf(d.upTo(3), 1+int64(d.next()%2))))
	}
	id := int64(0)
	for range count {
		id += 1 + int64(d.next()%5)
		h.Feats = append(h.Feats, d.anyFeat(h, id))
	}
	return h
}

func firstQ(a impl.Q, _ bool) impl.Q { return a }

func TestRebuildMany(t *testing.T) {
	t.Parallel()
	d := dice(191)
	seen := map[int64]int{}
	for i := range 150 {
		h := d.history(i % 9)
		if !impl.HistoryOk(h) {
			t.Fatal(h, "is not HistoryOk")
		}
		list := checkBuilt(t, i, h)
		for _, c := range codesOf(list) {
			seen[c]++
		}
		// What is off and on again is as before.
		if len(h.Feats) > 0 {
			at := int(d.next() % uint64(len(h.Feats)))
			o := copyHistory(h)
			o.Feats[at].Off = !o.Feats[at].Off
			checkBuilt(t, "the other way", o)
			o.Feats[at].Off = !o.Feats[at].Off
			if again := checkBuilt(t, "and back", o); !slices.EqualFunc(again, list, sameBuilt) {
				t.Error(i, "is, off and on again,", again, "not", list)
			}
		}
	}
	if seen[0] < 300 || seen[1] < 20 || seen[2] < 10 {
		t.Error("too few of some code", seen)
	}
}
