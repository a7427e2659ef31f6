package tests

import (
	"math/big"
	"slices"
	"testing"

	"loop.example/g00022/impl"
)

// Promise 19: histories, and what is built of them.

// con is a number without a parameter.
func con(n int64) impl.Term { return impl.Term{Param: -1, By: q(0, 1), Add: q(n, 1)} }

func par(at, by, add int64) impl.Term { return impl.Term{Param: at, By: q(by, 1), Add: q(add, 1)} }

func ft(id, kind, on, with int64, numbers ...int64) impl.Feat {
	f := impl.Feat{Id: id, Kind: kind, On: on, With: with}
	for _, n := range numbers {
		f.Nums = append(f.Nums, con(n))
	}
	return f
}

func off(f impl.Feat) impl.Feat {
	f.Off = true
	return f
}

// having is f with another number at a position.
func having(f impl.Feat, i int, t impl.Term) impl.Feat {
	f.Nums = slices.Clone(f.Nums)
	f.Nums[i] = t
	return f
}

func hs(feats ...impl.Feat) impl.History { return impl.History{Feats: feats} }

func withParams(h impl.History, params ...int64) impl.History {
	h.Params = nil
	for _, n := range params {
		h.Params = append(h.Params, q(n, 1))
	}
	return h
}

// copyHistory shares nothing with h.
func copyHistory(h impl.History) impl.History {
	o := impl.History{Params: slices.Clone(h.Params), Feats: slices.Clone(h.Feats)}
	for i, f := range o.Feats {
		o.Feats[i].Nums = slices.Clone(f.Nums)
	}
	return o
}

// changed is h with one feature put in the place of another one.
func changed(h impl.History, i int, f impl.Feat) impl.History {
	h = copyHistory(h)
	h.Feats[i] = f
	return h
}

// workshop has a feature of each kind, of parameters: the width, the depth, and where a hole is.
func workshop() impl.History {
	return impl.History{Params: []impl.Q{q(4, 1), q(3, 1), q(1, 2)}, Feats: []impl.Feat{
		{Id: 2, Kind: impl.FtBox, Nums: []impl.Term{con(0), con(0), con(0), par(0, 1, 0), par(1, 1, 0), con(2)}},
		{Id: 3, Kind: impl.FtPrism, Nums: []impl.Term{con(1), con(3), par(2, 1, 0), con(1), par(2, 1, 2), con(1), par(2, 1, 0), con(2)}},
		{Id: 10, Kind: impl.FtCut, On: 2, With: 3},
		{Id: 11, Kind: impl.FtMove, On: 3, Nums: []impl.Term{par(0, 1, -1), con(0), con(0)}},
		{Id: 500, Kind: impl.FtUnite, On: 10, With: 11},
		{Id: 501, Kind: impl.FtHalf, On: 500, Nums: []impl.Term{con(0), con(-2), con(0), con(-1)}},
		{Id: 999, Kind: impl.FtBox, Nums: []impl.Term{con(-9), con(-9), con(-9), con(9), con(9), par(1, 1, -1)}},
		{Id: 1000, Kind: impl.FtCommon, On: 501, With: 999},
	}}
}

func TestHistoriesThatAreOk(t *testing.T) {
	box, prism := ft(1, impl.FtBox, 0, 0, 0, 0, 0, 1, 1, 1), func(k int) impl.Feat { return ft(1, impl.FtPrism, 0, 0, make([]int64, 2+2*k)...) }
	many := hs()
	for i := range int64(8) {
		many.Feats = append(many.Feats, ft(i+1, impl.FtBox, 0, 0, 0, 0, 0, 1, 1, 1))
	}
	for name, h := range map[string]impl.History{
		"nothing":           {},
		"parameters alone":  withParams(hs(), 1, 2, 3, 4, 5, 6),
		"most features":     many,
		"a workshop":        workshop(),
		"the greatest Id":   hs(ft(1000, impl.FtBox, 0, 0, 0, 0, 0, 1, 1, 1)),
		"a prism of 3":      hs(prism(3)),
		"a prism of 4":      hs(prism(4)),
		"a prism of 5":      hs(prism(5)),
		"a prism of 6":      hs(prism(6)),
		"on and with alike": hs(box, ft(2, impl.FtUnite, 1, 1), ft(3, impl.FtCut, 2, 2), ft(4, impl.FtCommon, 1, 3)),
		"no box, but well":  hs(ft(1, impl.FtBox, 0, 0, 0, 0, 0, 0, 0, 0)),
		"off":               hs(off(box), off(ft(2, impl.FtMove, 1, 0, 1, 2, 3)), off(ft(3, impl.FtHalf, 2, 0, 0, 0, 0, 0))),
		"great numbers":     {Params: []impl.Q{q(top, 1), q(1, top)}, Feats: []impl.Feat{having(box, 0, impl.Term{Param: 1, By: q(-top, 1), Add: q(top, top-1)})}},
		"a parameter by 0":  withParams(hs(having(box, 0, par(0, 0, 3))), 7),
	} {
		if !impl.HistoryOk(h) {
			t.Error(name, "is not HistoryOk")
		}
		if list, ok := impl.Rebuild(h); !ok || len(list) != len(h.Feats) {
			t.Error(name, "is built as", list, ok)
		}
	}
}

// checkNoHistory wants each function to refuse h.
func checkNoHistory(t *testing.T, name any, h impl.History) {
	t.Helper()
	if impl.HistoryOk(h) {
		t.Error(name, "is HistoryOk")
	}
	if list, ok := impl.Rebuild(h); ok || len(list) > 0 {
		t.Error(name, "is built as", list, ok)
	}
	if list, n, ok := impl.Again(h, nil, hs()); ok || n != 0 || len(list) > 0 {
		t.Error(name, "was built, and is again", list, n, ok)
	}
	if list, n, ok := impl.Again(hs(), nil, h); ok || n != 0 || len(list) > 0 {
		t.Error(name, "is built again as", list, n, ok)
	}
	if list, ok := impl.Names(h); ok || len(list) > 0 {
		t.Error(name, "has the names", list, ok)
	}
	for _, n := range []impl.Name{{}, {Feat: 1}, {Feat: 2, Role: 3}} {
		if i, ok := impl.FindName(h, n); ok || i != -1 {
			t.Error(name, "has the name", n, "at", i, ok)
		}
	}
}

func TestHistoriesThatAreNone(t *testing.T) {
	box := func(id int64) impl.Feat { return ft(id, impl.FtBox, 0, 0, 0, 0, 0, 1, 1, 1) }
	many := hs()
	for i := range int64(9) {
		many.Feats = append(many.Feats, box(i+1))
	}
	for name, h := range map[string]impl.History{
		"too many parameters": withParams(hs(), 1, 2, 3, 4, 5, 6, 7),
		"too many features":   many,
		"Id 0":                hs(box(0)),
		"Id -1":               hs(box(-1)),
		"Id 1001":             hs(box(1001)),
		"the least Id":        hs(box(-1 << 63)),
		"an Id twice":         hs(box(4), box(4)),
		"Ids descending":      hs(box(4), box(3)),
		"Ids late descending": hs(box(1), box(4), box(6), box(5)),
		"kind 0":              hs(ft(1, 0, 0, 0)),
		"kind 8":              hs(ft(1, 8, 0, 0)),
		"kind -1":             hs(ft(1, -1, 0, 0)),
		"a great kind":        hs(ft(1, 1<<63-1, 0, 0)),
		"a low kind":          hs(ft(1, -1<<63, 0, 0)),
		"the zero feature":    hs(impl.Feat{}),
	} {
		checkNoHistory(t, name, h)
	}
	// On and With where they are wanted: 0, the feature itself, one behind it, one that there isn't.
	front, back := box(1), box(9)
	for _, kind := range []int64{impl.FtUnite, impl.FtCut, impl.FtCommon, impl.FtMove, impl.FtHalf} {
		numbers := make([]int64, map[int64]int{impl.FtMove: 3, impl.FtHalf: 4}[kind])
		isJoin := len(numbers) == 0
		for _, id := range []int64{0, 5, 9, 3, -1, 1000, -1 << 63} {
			with := int64(0)
			if isJoin {
				with = 1
				checkNoHistory(t, "with", hs(front, ft(5, kind, 1, id), back))
				checkNoHistory(t, "both", hs(front, ft(5, kind, id, id), back))
			}
			checkNoHistory(t, "on", hs(front, ft(5, kind, id, with, numbers...), back))
			checkNoHistory(t, "on, and off", hs(front, off(ft(5, kind, id, with, numbers...)), back))
		}
		if !isJoin {
			checkNoHistory(t, "a With that is not named", hs(front, ft(5, kind, 1, 1, numbers...), back))
		}
	}
	for _, f := range []impl.Feat{box(5), ft(5, impl.FtPrism, 0, 0, 0, 1, 0, 0, 1, 0, 0, 1)} {
		on, with := f, f
		on.On, with.With = 1, 1
		checkNoHistory(t, "an On that is not named", hs(front, on))
		checkNoHistory(t, "a With that is not named", hs(front, with))
		on.On, with.With = -1, 1000
		checkNoHistory(t, "an On that is none", hs(front, on))
		checkNoHistory(t, "a With that is none", hs(front, with))
	}
	checkNoHistory(t, "on the first", hs(ft(1, impl.FtMove, 1, 0, 0, 0, 0)))
}

func TestNumbersOfHistories(t *testing.T) {
	counts := map[int64][]int{impl.FtBox: {6}, impl.FtPrism: {8, 10, 12, 14}, impl.FtUnite: {0}, impl.FtCut: {0}, impl.FtCommon: {0}, impl.FtMove: {3}, impl.FtHalf: {4}}
	for kind, wanted := range counts {
		on, with := int64(0), int64(0)
		if kind >= impl.FtUnite {
			on = 1
		}
		if wanted[0] == 0 {
			with = 2
		}
		for n := range 18 {
			h := hs(ft(1, impl.FtBox, 0, 0, 0, 0, 0, 1, 1, 1), ft(2, impl.FtBox, 0, 0, 0, 0, 0, 1, 1, 1), ft(3, kind, on, with, make([]int64, n)...))
			if slices.Contains(wanted, n) {
				if !impl.HistoryOk(h) {
					t.Error("the kind", kind, "with", n, "numbers is not HistoryOk")
				}
			} else {
				checkNoHistory(t, [2]any{kind, n}, h)
			}
		}
	}
	clean := workshop()
	for i, f := range clean.Feats {
		for k := range f.Nums {
			for _, param := range []int64{-2, 3, 4, -1 << 63, 1<<63 - 1} {
				checkNoHistory(t, param, changed(clean, i, having(f, k, impl.Term{Param: param, By: q(0, 1), Add: q(1, 1)})))
			}
			for param := range int64(3) {
				if h := changed(clean, i, having(f, k, par(param, 2, 3))); !impl.HistoryOk(h) {
					t.Error(h, "is not HistoryOk")
				}
			}
			for _, by := range []impl.Q{q(1, 1), q(-1, 1), q(1, 2), q(0, 2), {}} {
				checkNoHistory(t, by, changed(clean, i, having(f, k, impl.Term{Param: -1, By: by, Add: q(1, 1)})))
			}
			for _, bad := range brokenFractions() {
				checkNoHistory(t, bad, changed(clean, i, having(f, k, impl.Term{Param: 0, By: bad, Add: q(1, 1)})))
				checkNoHistory(t, bad, changed(clean, i, having(f, k, impl.Term{Param: 2, By: q(1, 1), Add: bad})))
				checkNoHistory(t, bad, changed(clean, i, having(f, k, impl.Term{Param: -1, By: bad, Add: q(1, 1)})))
				checkNoHistory(t, bad, changed(clean, i, having(f, k, impl.Term{Param: -1, By: q(0, 1), Add: bad})))
			}
		}
	}
	for _, bad := range brokenFractions() {
		for i := range clean.Params {
			h := copyHistory(clean)
			h.Params[i] = bad
			checkNoHistory(t, bad, h)
		}
		checkNoHistory(t, bad, impl.History{Params: []impl.Q{bad}})
	}
	// Without parameters there is none to be named.
	checkNoHistory(t, "no parameters", hs(having(ft(1, impl.FtBox, 0, 0, 0, 0, 0, 1, 1, 1), 2, par(0, 1, 1))))
}

// wantNums tells a feature's numbers in big ones, and whether all are Qs.
func wantNums(h impl.History, f impl.Feat) ([]impl.Q, bool) {
	var list []impl.Q
	for _, t := range f.Nums {
		n := rat(t.Add)
		if t.Param >= 0 {
			n = plusRat(timesRat(rat(t.By), rat(h.Params[t.Param])), n)
		}
		value, ok := asQ(n)
		if !ok {
			return nil, false
		}
		list = append(list, value)
	}
	return list, true
}

// halfPlane is the plane of four numbers, divided; false when there is none.
func halfPlane(n []impl.Q) (impl.Plane, bool) {
	first := slices.IndexFunc(n[:3], func(a impl.Q) bool { return a.Num != 0 })
	if first < 0 {
		return impl.Plane{}, false
	}
	size := new(big.Rat).Abs(rat(n[first]))
	var list []impl.Q
	for _, a := range n {
		value, ok := asQ(new(big.Rat).Quo(rat(a), size))
		if !ok {
			return impl.Plane{}, false
		}
		list = append(list, value)
	}
	return impl.Plane{A: list[0], B: list[1], C: list[2], D: list[3]}, true
}

func loopOf(n []impl.Q) []impl.V {
	var loop []impl.V
	for i := 2; i < len(n); i += 2 {
		loop = append(loop, impl.V{X: n[i], Y: n[i+1]})
	}
	return loop
}

// wantSolid tells what a feature that is on makes of others.
func wantSolid(kind int64, n []impl.Q, on, with impl.Solid) (impl.Solid, bool) {
	switch kind {
	case impl.FtBox:
		return impl.Box(impl.V3{X: n[0], Y: n[1], Z: n[2]}, impl.V3{X: n[3], Y: n[4], Z: n[5]})
	case impl.FtPrism:
		r, ok := impl.MakeRegion(lps(loopOf(n)))
		if !ok {
			return impl.Solid{}, false
		}
		return impl.Prism(r, n[0], n[1])
	case impl.FtMove:
		m := identity()
		m.X, m.Y, m.Z = n[0], n[1], n[2]
		return impl.MapSolid(on, m)
	case impl.FtHalf:
		p, ok := halfPlane(n)
		if !ok {
			return impl.Solid{}, false
		}
		return impl.Cut(on, p)
	}
	return impl.Join(on, with, map[int64]int64{impl.FtUnite: impl.OpOr, impl.FtCut: impl.OpLess, impl.FtCommon: impl.OpAnd}[kind])
}

// wantBuilt goes by the document's words.
func wantBuilt(h impl.History) []impl.Built {
	var list []impl.Built
	find := func(id int64) impl.Built {
		for _, b := range list {
			if b.Id == id {
				return b
			}
		}
		return impl.Built{}
	}
	for _, f := range h.Feats {
		on, with := find(f.On), find(f.With)
		b := impl.Built{Id: f.Id}
		if f.Off {
			b.Code, b.Solid = on.Code, on.Solid
		} else if on.Code != impl.FtOk || with.Code != impl.FtOk {
			b.Code = impl.FtLost
		} else if nums, ok := wantNums(h, f); !ok {
			b.Code = impl.FtRefused
		} else if b.Solid, ok = wantSolid(f.Kind, nums, on.Solid, with.Solid); !ok {
			b.Code = impl.FtRefused
		}
		list = append(list, b)
	}
	return list
}

func sameBuilt(a, b impl.Built) bool {
	return a.Id == b.Id && a.Code == b.Code && sameSolids(a.Solid, b.Solid)
}

func checkBuilt(t *testing.T, name any, h impl.History) []impl.Built {
	t.Helper()
	got, ok := impl.Rebuild(h)
	if want := wantBuilt(h); !ok || !slices.EqualFunc(got, want, sameBuilt) {
		t.Fatal(name, h, "is built as", got, ok, "not", want)
	}
	for _, b := range got {
		if !impl.SolidOk(b.Solid) || b.Code != impl.FtOk && len(b.Solid.Faces) > 0 {
			t.Error(name, "has", b)
		}
	}
	return got
}

func codesOf(list []impl.Built) []int64 {
	var codes []int64
	for _, b := range list {
		codes = append(codes, b.Code)
	}
	return codes
}

func volumesOf(list []impl.Built) []string {
	var told []string
	for _, b := range list {
		told = append(told, volumeOf(b.Solid).RatString())
	}
	return told
}
