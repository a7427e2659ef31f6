package tests

import (
	"slices"
	"testing"

	"loop.example/g00022/impl"
)

// Promise 19: a history built again is as built from nothing.

// hasLike goes by the document's words.
func hasLike(was, h impl.History, id int64) bool {
	find := func(o impl.History) *impl.Feat {
		for i := range o.Feats {
			if o.Feats[i].Id == id {
				return &o.Feats[i]
			}
		}
		return nil
	}
	f, g := find(h), find(was)
	if g == nil || f.Kind != g.Kind || f.Off != g.Off || f.On != g.On || f.With != g.With || !slices.Equal(f.Nums, g.Nums) {
		return false
	}
	for _, t := range f.Nums {
		if t.Param >= 0 && h.Params[t.Param] != was.Params[t.Param] {
			return false
		}
	}
	return (f.On == 0 || hasLike(was, h, f.On)) && (f.With == 0 || hasLike(was, h, f.With))
}

// checkAgain wants Rebuild's list, and tells how many were made anew.
func checkAgain(t *testing.T, name any, was, h impl.History) int64 {
	t.Helper()
	old, _ := impl.Rebuild(was)
	want, _ := impl.Rebuild(h)
	count := int64(0)
	for _, f := range h.Feats {
		if !hasLike(was, h, f.Id) {
			count++
		}
	}
	got, n, ok := impl.Again(was, old, h)
	if !ok || n != count || !slices.EqualFunc(got, want, sameBuilt) {
		t.Error(name, "is again", codesOf(got), n, ok, "not", codesOf(want), count)
	}
	return n
}

func leftOut(h impl.History, ids ...int64) impl.History {
	h = copyHistory(h)
	h.Feats = slices.DeleteFunc(h.Feats, func(f impl.Feat) bool { return slices.Contains(ids, f.Id) })
	return h
}

func params(h impl.History, list ...impl.Q) impl.History {
	return impl.History{Params: list, Feats: h.Feats}
}

func firstFeats(h impl.History, count int) impl.History {
	return impl.History{Params: h.Params, Feats: h.Feats[:count]}
}

func putIn(h impl.History, i int, f impl.Feat) impl.History {
	h = copyHistory(h)
	h.Feats = slices.Insert(h.Feats, i, f)
	return h
}

func TestAgainByHand(t *testing.T) {
	whole := workshop()
	// The last two are needed by nothing but one another.
	clean := leftOut(whole, 1000)
	small := ft(1, impl.FtBox, 0, 0, 0, 0, 0, 1, 1, 1)
	set := func(i int, change func(f *impl.Feat)) impl.History {
		h := copyHistory(whole)
		change(&h.Feats[i])
		return h
	}
	for _, c := range []struct {
		name   string
		was, h impl.History
		want   int64
	}{
		{"nothing changed", whole, copyHistory(whole), 0},
		{"nothing at all", hs(), hs(), 0},
		{"out of nothing", hs(), whole, 8},
		{"to nothing", whole, hs(), 0},
		// The box, the cut, the move, the union, the half and the common.
		{"the width", whole, params(whole, q(5, 1), q(3, 1), q(1, 2)), 6},
		// The boxes, and all but the prism and its move.
		{"the depth", whole, params(whole, q(4, 1), q(2, 1), q(1, 2)), 6},
		{"where the hole is", whole, withParams(whole, 4, 3, 1), 6},
		{"all parameters", whole, withParams(whole, 5, 2, 1), 8},
		{"one more parameter", whole, impl.History{Params: append(slices.Clone(whole.Params), q(9, 1)), Feats: whole.Feats}, 0},
		{"one parameter less", impl.History{Params: append(slices.Clone(whole.Params), q(9, 1)), Feats: whole.Feats}, whole, 0},
		{"a parameter that is not named", impl.History{Params: append(slices.Clone(whole.Params), q(9, 1)), Feats: whole.Feats}, impl.History{Params: append(slices.Clone(whole.Params), q(8, 1)), Feats: whole.Feats}, 0},
		{"parameters the other way round", withParams(hs(having(small, 3, par(0, 1, 0))), 1, 2), withParams(hs(having(small, 3, par(0, 1, 0))), 2, 1), 1},
		{"another parameter with the same value", withParams(hs(having(small, 3, par(0, 1, 0))), 2, 2), withParams(hs(having(small, 3, par(1, 1, 0))), 2, 2), 1},
		{"a parameter by 0", withParams(hs(having(small, 3, par(0, 0, 2))), 2), withParams(hs(having(small, 3, par(0, 0, 2))), 3), 1},
		{"the same number told otherwise", withParams(hs(having(small, 3, par(0, 1, 0))), 2), withParams(hs(having(small, 3, con(2))), 2), 1},
		{"the last Id", clean, firstFeats(set(6, func(f *impl.Feat) { f.Id = 998 }), 7), 1},
		{"the Id of what another is made of", whole, changed(set(6, func(f *impl.Feat) { f.Id = 998 }), 7, ft(1000, impl.FtCommon, 501, 998)), 2},
		{"a Kind", whole, set(2, func(f *impl.Feat) { f.Kind = impl.FtUnite }), 4},
		{"the last Kind", whole, set(7, func(f *impl.Feat) { f.Kind = impl.FtCut }), 1},
		{"the first off", whole, set(0, func(f *impl.Feat) { f.Off = true }), 5},
		{"the prism off", whole, set(1, func(f *impl.Feat) { f.Off = true }), 6},
		{"the move off", whole, set(3, func(f *impl.Feat) { f.Off = true }), 4},
		{"the last off", whole, set(7, func(f *impl.Feat) { f.Off = true }), 1},
		{"on again", set(3, func(f *impl.Feat) { f.Off = true }), whole, 4},
		{"another On", whole, set(7, func(f *impl.Feat) { f.On = 500 }), 1},
		{"another On ahead", whole, set(4, func(f *impl.Feat) { f.On = 2 }), 3},
		{"another With", whole, set(4, func(f *impl.Feat) { f.With = 3 }), 3},
		{"another By", whole, set(0, func(f *impl.Feat) { f.Nums[3].By = q(2, 1) }), 5},
		{"another Add", whole, set(1, func(f *impl.Feat) { f.Nums[0].Add = q(0, 1) }), 6},
		{"another Param", whole, set(6, func(f *impl.Feat) { f.Nums[5].Param = 0 }), 2},
		{"one number more", whole, set(1, func(f *impl.Feat) { f.Nums = append(f.Nums, con(0), con(2)) }), 6},
		{"what hangs on it by With alone", whole, set(6, func(f *impl.Feat) { f.Nums[0] = con(-8) }), 2},
		{"the last left out", whole, clean, 0},
		{"put in behind", clean, whole, 1},
		{"put in ahead", clean, putIn(clean, 0, small), 1},
		{"put in between", clean, putIn(clean, 4, ft(400, impl.FtMove, 2, 0, 1, 1, 1)), 1},
		{"one left out that none hangs on", putIn(clean, 0, small), clean, 0},
		{"nothing in common", hs(small), hs(ft(2, impl.FtBox, 0, 0, 0, 0, 0, 1, 1, 1)), 1},
		{"the same Id for another", hs(small), hs(ft(1, impl.FtBox, 0, 0, 0, 0, 0, 1, 1, 2), ft(3, impl.FtMove, 1, 0, 1, 1, 1)), 2},
		{"refused before, made now", hs(ft(1, impl.FtBox, 0, 0, 0, 0, 0, 1, 1, 0), ft(3, impl.FtMove, 1, 0, 1, 1, 1)), hs(small, ft(3, impl.FtMove, 1, 0, 1, 1, 1)), 2},
		{"refused again", hs(ft(1, impl.FtBox, 0, 0, 0, 0, 0, 1, 1, 0), ft(3, impl.FtMove, 1, 0, 1, 1, 1)), hs(ft(1, impl.FtBox, 0, 0, 0, 0, 0, 1, 1, 0), ft(3, impl.FtMove, 1, 0, 1, 1, 1), ft(4, impl.FtMove, 3, 0, 1, 1, 1)), 1},
		{"off, with a With that is changed", hs(small, ft(2, impl.FtBox, 0, 0, 0, 0, 0, 1, 1, 1), off(ft(3, impl.FtCut, 1, 2))), hs(small, ft(2, impl.FtBox, 0, 0, 0, 0, 0, 1, 1, 2), off(ft(3, impl.FtCut, 1, 2))), 2},
	} {
		if n := checkAgain(t, c.name, c.was, c.h); n != c.want {
			t.Error(c.name, "makes", n, "anew, not", c.want)
		}
	}
}

func TestAgainMany(t *testing.T) {
	t.Parallel()
	d := dice(192)
	seen := map[bool]int{}
	for i := range 120 {
		was := d.history(1 + i%8)
		h := copyHistory(was)
		for range 1 + d.next()%2 {
			at := int(d.next() % uint64(len(h.Feats)))
			switch d.next() % 6 {
			case 0:
				if len(h.Params) > 0 {
					h.Params[d.next()%uint64(len(h.Params))] = q(d.upTo(3), 1)
				}
			case 1:
				h.Feats[at].Off = !h.Feats[at].Off
			case 2:
				ahead := impl.History{Params: h.Params, Feats: h.Feats[:at]}
				h.Feats[at] = d.anyFeat(ahead, h.Feats[at].Id)
			case 3:
				if last := len(h.Feats) - 1; last > 0 {
					h.Feats = h.Feats[:last]
				}
			case 4:
				if nums := h.Feats[at].Nums; len(nums) > 0 {
					nums[d.next()%uint64(len(nums))].Add = q(d.upTo(2), 1)
				}
			case 5:
				h.Params = append(h.Params, q(d.upTo(3), 1))
			}
		}
		if !impl.HistoryOk(h) {
			t.Fatal(h, "is not HistoryOk")
		}
		n := checkAgain(t, i, was, h)
		seen[n > 0 && n < int64(len(h.Feats))]++
		checkAgain(t, i, h, was)
		checkAgain(t, i, h, h)
	}
	if seen[true] < 40 {
		t.Error("too few that are made anew in part", seen)
	}
}

func copyBuilt(list []impl.Built) []impl.Built {
	var o []impl.Built
	for _, b := range list {
		o = append(o, impl.Built{Id: b.Id, Code: b.Code, Solid: copySolid(b.Solid)})
	}
	return o
}

func TestAgainRefused(t *testing.T) {
	t.Parallel()
	h := workshop()
	h.Feats[6].Nums[3] = con(-9)
	clean, _ := impl.Rebuild(h)
	if !slices.Equal(codesOf(clean), codes(0, 0, 0, 0, 0, 0, 1, 2)) {
		t.Fatal("the workshop has", codesOf(clean))
	}
	refused := func(name any, was impl.History, old []impl.Built, h impl.History) {
		t.Helper()
		if list, n, ok := impl.Again(was, old, h); ok || n != 0 || len(list) > 0 {
			t.Error(name, "is again", list, n, ok)
		}
	}
	if _, n, ok := impl.Again(h, copyBuilt(clean), h); !ok || n != 0 {
		t.Error("a copy is made again", n, ok)
	}
	for i := range clean {
		for name, change := range map[string]func(b *impl.Built){
			"another Id":        func(b *impl.Built) { b.Id++ },
			"Id 0":              func(b *impl.Built) { b.Id = 0 },
			"another Code":      func(b *impl.Built) { b.Code = 1 - min(b.Code, 1) },
			"a Code that isn't": func(b *impl.Built) { b.Code = 3 },
			"one face more":     func(b *impl.Built) { b.Solid.Faces = append(b.Solid.Faces, impl.Face{}) },
			"another solid":     func(b *impl.Built) { b.Solid, _ = impl.Box(v3(0, 0, 0), v3(1, 1, 97)) },
		} {
			old := copyBuilt(clean)
			change(&old[i])
			refused(name, h, old, h)
			refused(name, h, old, hs())
		}
		for k := range clean[i].Solid.Faces {
			for name, change := range map[string]func(f *impl.Face){
				"another plane":     func(f *impl.Face) { f.Plane.D = q(f.Plane.D.Num+f.Plane.D.Den, f.Plane.D.Den) },
				"a broken plane":    func(f *impl.Face) { f.Plane.D = q(2*f.Plane.D.Num, 2*f.Plane.D.Den) },
				"no loops":          func(f *impl.Face) { f.Region.Loops = nil },
				"one loop more":     func(f *impl.Face) { f.Region.Loops = append(f.Region.Loops, box(50, 50, 51, 51)) },
				"a loop cut short":  func(f *impl.Face) { f.Region.Loops[0] = f.Region.Loops[0][1:] },
				"begun elsewhere":   func(f *impl.Face) { f.Region.Loops[0] = begun(f.Region.Loops[0], 1) },
				"another place":     func(f *impl.Face) { f.Region.Loops[0][1].X = q(77, 1) },
				"a broken place":    func(f *impl.Face) { f.Region.Loops[0][0].Y = impl.Q{} },
				"the plane's other": func(f *impl.Face) { f.Plane = allTurned(impl.Solid{Faces: []impl.Face{*f}}).Faces[0].Plane },
			} {
				old := copyBuilt(clean)
				change(&old[i].Solid.Faces[k])
				refused(name, h, old, h)
			}
		}
		old := copyBuilt(clean)
		refused("one left out", h, slices.Delete(old, i, i+1), h)
		refused("one twice", h, slices.Insert(copyBuilt(clean), i, clean[i]), h)
	}
	refused("nothing", h, nil, h)
	refused("one more", h, append(copyBuilt(clean), impl.Built{}), h)
	refused("another order", h, slices.Concat(clean[1:], clean[:1]), h)
	refused("that of another", workshop(), clean, h)
	refused("something of nothing", hs(), clean[:1], hs())
	bad := copyHistory(h)
	bad.Feats[3].Id = 3
	refused("was is none", bad, clean, h)
	refused("h is none", h, clean, bad)
	refused("both are none", bad, clean, bad)
}

func TestAgainBrokenFractions(t *testing.T) {
	h := hs(ft(1, impl.FtBox, 0, 0, 0, 0, 0, 1, 1, 1), ft(2, impl.FtHalf, 1, 0, 1, 1, 1, 2))
	clean, _ := impl.Rebuild(h)
	for _, bad := range brokenFractions() {
		for i := range 6 {
			old := copyBuilt(clean)
			f := &old[1].Solid.Faces[i]
			place := &f.Region.Loops[0][i%3]
			*[]*impl.Q{&f.Plane.A, &f.Plane.B, &f.Plane.C, &f.Plane.D, &place.X, &place.Y}[i] = bad
			if list, n, ok := impl.Again(h, old, h); ok || n != 0 || len(list) > 0 {
				t.Error(bad, "in a solid is built again", list, n, ok)
			}
		}
	}
}
