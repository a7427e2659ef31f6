package tests

import (
	"math/big"
	"slices"
	"testing"

	"loop.example/g00022/impl"
)

// Promise 19: names stand for the same side of the same feature.

func nm(feat, role int64) impl.Name { return impl.Name{Feat: feat, Role: role} }

func nms(pairs ...int64) []impl.Name {
	var list []impl.Name
	for i := 0; i < len(pairs); i += 2 {
		list = append(list, nm(pairs[i], pairs[i+1]))
	}
	return list
}

func turnedPlane(p impl.Plane) impl.Plane {
	minus := func(a impl.Q) impl.Q { return q(-a.Num, a.Den) }
	return impl.Plane{A: minus(p.A), B: minus(p.B), C: minus(p.C), D: minus(p.D)}
}

// boxPlanes are those of a box's sides, by their roles.
func boxPlanes(n []impl.Q) []impl.Plane {
	one, zero := q(1, 1), q(0, 1)
	x, y, z := impl.Plane{A: one, B: zero, C: zero}, impl.Plane{A: zero, B: one, C: zero}, impl.Plane{A: zero, B: zero, C: one}
	at := func(p impl.Plane, d impl.Q) impl.Plane {
		p.D = d
		return p
	}
	return []impl.Plane{turnedPlane(at(x, n[0])), turnedPlane(at(y, n[1])), turnedPlane(at(z, n[2])), at(x, n[3]), at(y, n[4]), at(z, n[5])}
}

// hasEdge tells whether an upright plane has the edge of a loop that begins at its place k; what is between like places is none.
func hasEdge(p impl.Plane, loop []impl.V, k int) bool {
	isOn := func(v impl.V) bool { return over(p, point3{rat(v.X), rat(v.Y), new(big.Rat)}).Sign() == 0 }
	next := loop[(k+1)%len(loop)]
	return loop[k] != next && isOn(loop[k]) && isOn(next)
}

func prismRole(p impl.Plane, loop []impl.V) int64 {
	if p.C.Num != 0 {
		return (1 + p.C.Num) / 2
	}
	for k := range loop {
		if hasEdge(p, loop, k) {
			return int64(2 + k)
		}
	}
	return -1
}

// wantNames tells, for each feature of which list has what it became, the names of all planes of its faces, by the document's words.
func wantNames(h impl.History, list []impl.Built) map[int64]map[impl.Plane]impl.Name {
	all := map[int64]map[impl.Plane]impl.Name{}
	for i, f := range h.Feats {
		names := map[impl.Plane]impl.Name{}
		all[f.Id] = names
		nums, _ := wantNums(h, f)
		for _, face := range list[i].Solid.Faces {
			p := face.Plane
			on, isOn := all[f.On][p]
			with, isWith := all[f.With][p]
			switch {
			case f.Off:
				names[p] = on
			case f.Kind == impl.FtBox:
				names[p] = nm(f.Id, int64(slices.Index(boxPlanes(nums), p)))
			case f.Kind == impl.FtPrism:
				names[p] = nm(f.Id, prismRole(p, loopOf(nums)))
			case f.Kind == impl.FtMove:
				by := normalOf(p).dot(point3{rat(nums[0]), rat(nums[1]), rat(nums[2])})
				before := p
				before.D, _ = asQ(minusRat(rat(p.D), by))
				names[p] = all[f.On][before]
			case isOn:
				names[p] = on
			case f.Kind == impl.FtHalf:
				names[p] = nm(f.Id, 0)
			case isWith:
				names[p] = with
			case f.Kind == impl.FtCut:
				names[p] = all[f.With][turnedPlane(p)]
			}
		}
	}
	return all
}

// checkNames holds Names and FindName against the words.
func checkNames(t *testing.T, name any, h impl.History) []impl.Name {
	t.Helper()
	got, ok := impl.Names(h)
	list := wantBuilt(h)
	if len(list) == 0 || list[len(list)-1].Code != impl.FtOk {
		if ok || len(got) > 0 {
			t.Error(name, "has the names", got, ok)
		}
		if i, ok := impl.FindName(h, nm(1, 0)); ok || i != -1 {
			t.Error(name, "has a name at", i, ok)
		}
		return got
	}
	last := list[len(list)-1]
	var want []impl.Name
	names := wantNames(h, list)[last.Id]
	for _, f := range last.Solid.Faces {
		want = append(want, names[f.Plane])
	}
	if !ok || !slices.Equal(got, want) {
		t.Error(name, h, "has the names", got, ok, "not", want)
	}
	for _, n := range append(slices.Clone(want), nm(0, 0), nm(last.Id, -1), nm(last.Id, 9), nm(999, 0), nm(want0(want).Feat, 7)) {
		i, ok := impl.FindName(h, n)
		if at := slices.Index(want, n); i != int64(at) || ok != (at >= 0) {
			t.Error(name, "has", n, "at", i, ok, "not", at)
		}
	}
	return got
}

func want0(list []impl.Name) impl.Name {
	if len(list) == 0 {
		return impl.Name{}
	}
	return list[0]
}

type nameCase struct {
	name string
	h    impl.History
	want []impl.Name
}

// madeNames are those of boxes and prisms.
func madeNames() []nameCase {
	prism := func(n ...int64) impl.History { return hs(ft(4, impl.FtPrism, 0, 0, n...)) }
	return []nameCase{
		{"a box", hs(ft(7, impl.FtBox, 0, 0, 1, 2, 3, 4, 5, 6)), nms(7, 0, 7, 1, 7, 2, 7, 5, 7, 4, 7, 3)},
		{"a box about the origin", hs(ft(7, impl.FtBox, 0, 0, -1, -1, -1, 1, 1, 1)), nms(7, 0, 7, 1, 7, 2, 7, 5, 7, 4, 7, 3)},
		// The planes of the sides: X = 0 looking down, Y = 0 looking down, Z = 0 and Z = 1, and X + Y = 2.
		{"a prism", prism(0, 1, 0, 0, 2, 0, 0, 2), nms(4, 4, 4, 2, 4, 0, 4, 1, 4, 3)},
		{"begun elsewhere", prism(0, 1, 2, 0, 0, 2, 0, 0), nms(4, 3, 4, 4, 4, 0, 4, 1, 4, 2)},
		{"gone round the other way", prism(0, 1, 0, 0, 0, 2, 2, 0), nms(4, 2, 4, 4, 4, 0, 4, 1, 4, 3)},
		{"the last edge is the first side", prism(0, 1, 0, 2, 2, 0, 2, 2), nms(4, 2, 4, 0, 4, 1, 4, 4, 4, 3)},
		// Two edges in a row along Y = 0.
		{"edges in a row", prism(0, 1, 1, 0, 2, 0, 0, 2, 0, 0), nms(4, 4, 4, 2, 4, 0, 4, 1, 4, 3)},
		{"edges on one line", prism(0, 1, 0, 0, 1, 0, 1, 1, 2, 1, 2, 0, 3, 0), nil},
		// A notch: the edges 0 and 3 lie on Y = 0, and so do the faces of both, which are one.
		{"a notch", prism(0, 1, 0, 0, 2, 0, 3, 2, 4, 0, 6, 0, 3, 9), nms(4, 4, 4, 7, 4, 2, 4, 0, 4, 1, 4, 3, 4, 6)},
		// A bow: its edges 0 and 2 go from corner to corner, with inside now on the one side, now on the other.
		{"crossing", prism(0, 1, 0, 0, 2, 2, 2, 0, 0, 2), nms(4, 4, 4, 5, 4, 2, 4, 0, 4, 1, 4, 2, 4, 3, 4, 4)},
		{"a hole by crossing", prism(0, 1, 0, 0, 6, 0, 0, 6, 2, -2, 6, 6, -2, 2), nil},
		{"a star", hs(ft(4, impl.FtPrism, 0, 0, slices.Concat([]int64{0, 1}, star())...)), nil},
		// The edge 1 is no more than the place (4, 0), which the slant has, too: it is no side.
		{"a place twice in a row", prism(0, 1, 0, 0, 4, 0, 4, 0, 0, 4), nms(4, 5, 4, 2, 4, 0, 4, 1, 4, 4)},
		{"a place twice", prism(0, 1, 0, 0, 2, 0, 2, 2, 0, 0, -2, -2, -2, 0), nil},
		{"a loop on one line", prism(0, 1, 0, 0, 1, 1, 2, 2), nil},
	}
}

func joinedNames() []nameCase {
	base := ft(1, impl.FtBox, 0, 0, 0, 0, 0, 4, 4, 4)
	with := func(kind int64, n ...int64) impl.History {
		return hs(base, ft(2, impl.FtBox, 0, 0, n...), ft(3, kind, 1, 2))
	}
	all := nms(1, 0, 1, 1, 1, 2, 1, 5, 1, 4, 1, 3)
	return []nameCase{
		// A block on top: its lower side is gone, its upper one looks the same way as that of the base, but is higher.
		{"on top", with(impl.FtUnite, 1, 1, 4, 3, 3, 6), nms(2, 0, 1, 0, 2, 1, 1, 1, 1, 2, 1, 5, 2, 5, 2, 4, 1, 4, 2, 3, 1, 3)},
		// Side by side: what both have looks the same way, and is the base's; between them nothing is left.
		{"side by side", with(impl.FtUnite, 4, 0, 0, 8, 4, 4), nms(1, 0, 1, 1, 1, 2, 1, 5, 1, 4, 2, 3)},
		{"the other one first", hs(base, ft(2, impl.FtBox, 0, 0, 4, 0, 0, 8, 4, 4), ft(3, impl.FtUnite, 2, 1)), nms(1, 0, 2, 1, 2, 2, 2, 5, 2, 4, 2, 3)},
		{"within", with(impl.FtUnite, 1, 1, 1, 2, 2, 2), all},
		{"around", with(impl.FtUnite, -1, -1, -1, 5, 5, 5), nms(2, 0, 2, 1, 2, 2, 2, 5, 2, 4, 2, 3)},
		{"the same", with(impl.FtUnite, 0, 0, 0, 4, 4, 4), all},
		{"the same in common", with(impl.FtCommon, 0, 0, 0, 4, 4, 4), all},
		{"a corner in common", with(impl.FtCommon, 2, 2, 2, 6, 6, 6), nms(2, 0, 2, 1, 2, 2, 1, 5, 1, 4, 1, 3)},
		{"a corner cut", with(impl.FtCut, 2, 2, 2, 6, 6, 6), nms(1, 0, 1, 1, 1, 2, 2, 2, 1, 5, 2, 1, 1, 4, 2, 0, 1, 3)},
		// The block's side looks at the base's upper side: what is left of that is the base's.
		{"a pit from the side", with(impl.FtCut, 2, 1, 1, 4, 3, 3), nms(1, 0, 2, 4, 1, 1, 2, 5, 1, 2, 2, 2, 1, 5, 2, 1, 1, 4, 2, 0, 1, 3)},
		{"a slot", with(impl.FtCut, 0, 1, 1, 4, 2, 4), nms(1, 0, 2, 4, 1, 1, 1, 2, 2, 2, 1, 5, 2, 1, 1, 4, 1, 3)},
		// The cut ends at X = 2, looking to the lower side; With has a face on that plane turned round alone.
		{"cut in half", with(impl.FtCut, 2, 0, 0, 4, 4, 4), nms(1, 0, 1, 1, 1, 2, 1, 5, 1, 4, 2, 0)},
		{"cut along a side", with(impl.FtCut, 4, 0, 0, 8, 4, 4), all},
		{"all cut", with(impl.FtCut, 0, 0, 0, 4, 4, 4), nil},
		// What is cut has a side that looks the same way as the new one: that one's name is taken, not the one turned round.
		{"cut by two blocks next to one plane", hs(base, ft(2, impl.FtBox, 0, 0, 2, -1, -1, 5, 2, 5), ft(3, impl.FtBox, 0, 0, -1, 2, -1, 2, 5, 5), ft(4, impl.FtUnite, 2, 3), ft(5, impl.FtCut, 1, 4)),
			nms(2, 0, 1, 0, 3, 1, 1, 1, 1, 2, 1, 5, 2, 4, 1, 4, 3, 3, 1, 3)},
		{"features in a row", hs(base, ft(2, impl.FtMove, 1, 0, 1, 1, 1), ft(3, impl.FtCut, 1, 2), ft(4, impl.FtHalf, 3, 0, 1, 1, 1, 8), ft(5, impl.FtMove, 4, 0, -1, 0, 5)),
			nms(1, 0, 1, 1, 1, 2, 1, 2, 1, 5, 1, 1, 1, 4, 1, 0, 1, 3, 4, 0)},
	}
}

func otherNames() []nameCase {
	base, block := ft(1, impl.FtBox, 0, 0, 0, 0, 0, 4, 4, 4), ft(2, impl.FtBox, 0, 0, 1, 1, 4, 3, 3, 6)
	all := nms(1, 0, 1, 1, 1, 2, 1, 5, 1, 4, 1, 3)
	return []nameCase{
		{"moved", hs(base, ft(2, impl.FtMove, 1, 0, 5, -6, 7)), all},
		{"moved twice", hs(base, ft(2, impl.FtMove, 1, 0, 5, -6, 7), ft(3, impl.FtMove, 2, 0, -5, 6, -7)), all},
		{"moved to where another's sides are", hs(base, ft(2, impl.FtMove, 1, 0, 4, 0, 0), ft(3, impl.FtUnite, 1, 2)), nms(1, 0, 1, 1, 1, 2, 1, 5, 1, 4, 1, 3)},
		{"halved", hs(base, ft(2, impl.FtHalf, 1, 0, 3, 0, 0, 6)), nms(1, 0, 1, 1, 1, 2, 1, 5, 1, 4, 2, 0)},
		{"halved from the other side", hs(base, ft(2, impl.FtHalf, 1, 0, -3, 0, 0, -6)), nms(2, 0, 1, 1, 1, 2, 1, 5, 1, 4, 1, 3)},
		{"halved along a side", hs(base, ft(2, impl.FtHalf, 1, 0, 3, 0, 0, 12)), all},
		{"halved beside it", hs(base, ft(2, impl.FtHalf, 1, 0, 3, 0, 0, 15)), all},
		{"halved by a plane that a face has", hs(base, block, ft(3, impl.FtUnite, 1, 2), ft(4, impl.FtHalf, 3, 0, 0, 0, 1, 4)), all},
		{"halved by that of a smaller face", hs(base, block, ft(3, impl.FtUnite, 1, 2), ft(4, impl.FtHalf, 3, 0, 1, 0, 0, 3)), nms(2, 0, 1, 0, 2, 1, 1, 1, 1, 2, 1, 5, 2, 5, 2, 4, 1, 4, 2, 3)},
		{"halved by a face's plane turned round", hs(base, block, ft(3, impl.FtUnite, 1, 2), ft(4, impl.FtHalf, 3, 0, 0, 0, -1, -4)), nms(2, 0, 2, 1, 4, 0, 2, 5, 2, 4, 2, 3)},
		{"halved to nothing", hs(base, ft(2, impl.FtHalf, 1, 0, 1, 0, 0, 0)), nil},
		{"off: a box", hs(off(base)), nil},
		{"off: a move", hs(base, off(ft(2, impl.FtMove, 1, 0, 1, 1, 1))), all},
		{"off: a half", hs(base, off(ft(2, impl.FtHalf, 1, 0, 1, 0, 0, 2))), all},
		{"off: a cut", hs(base, block, off(ft(3, impl.FtCut, 2, 1))), nms(2, 0, 2, 1, 2, 2, 2, 5, 2, 4, 2, 3)},
		{"off in the middle", hs(base, off(ft(2, impl.FtMove, 1, 0, 9, 9, 9)), ft(3, impl.FtHalf, 2, 0, 1, 0, 0, 2)), nms(1, 0, 1, 1, 1, 2, 1, 5, 1, 4, 3, 0)},
		{"refused in the middle", hs(base, ft(2, impl.FtHalf, 1, 0, 0, 0, 0, 2), ft(3, impl.FtMove, 1, 0, 1, 1, 1)), all},
		{"off with one that is refused", hs(base, ft(2, impl.FtBox, 0, 0, 1, 1, 1, 1, 1, 1), off(ft(3, impl.FtUnite, 1, 2))), all},
		{"refused at last", hs(base, ft(2, impl.FtHalf, 1, 0, 0, 0, 0, 2)), nil},
		{"lost at last", hs(base, ft(2, impl.FtHalf, 1, 0, 0, 0, 0, 2), ft(3, impl.FtUnite, 1, 2)), nil},
		{"off on one that is refused", hs(base, ft(2, impl.FtHalf, 1, 0, 0, 0, 0, 2), off(ft(3, impl.FtUnite, 2, 1))), nil},
		{"no features", hs(), nil},
		{"no features, but parameters", withParams(hs(), 1, 2), nil},
	}
}

func TestNamesByHand(t *testing.T) {
	for _, c := range slices.Concat(madeNames(), joinedNames(), otherNames()) {
		if got := checkNames(t, c.name, c.h); c.want != nil && !slices.Equal(got, c.want) {
			t.Error(c.name, "has the names", got, "not", c.want)
		}
	}
	// Without faces there are no names, and that is well.
	for _, h := range []impl.History{hs(off(ft(1, impl.FtBox, 0, 0, 0, 0, 0, 1, 1, 1))), hs(ft(1, impl.FtPrism, 0, 0, 0, 1, 0, 0, 1, 1, 2, 2))} {
		if list, ok := impl.Names(h); !ok || len(list) > 0 {
			t.Error("an empty solid has the names", list, ok)
		}
		if i, ok := impl.FindName(h, nm(1, 0)); ok || i != -1 {
			t.Error("an empty solid has a name at", i, ok)
		}
	}
	for _, h := range []impl.History{hs(), hs(ft(1, impl.FtBox, 0, 0, 0, 0, 0, 1, 1, 0)), hs(ft(1, impl.FtBox, 0, 0, 0, 0, 0, 1, 1, 0), ft(2, impl.FtMove, 1, 0, 0, 0, 0))} {
		if list, ok := impl.Names(h); ok || len(list) > 0 {
			t.Error("what is not made has the names", list, ok)
		}
	}
}

func TestNamesThatAreThereTwice(t *testing.T) {
	// Two blocks of one box, moved apart: each side is there twice but where both are in one plane.
	h := hs(ft(1, impl.FtBox, 0, 0, 0, 0, 0, 2, 2, 2), ft(2, impl.FtMove, 1, 0, 5, 0, 0), ft(3, impl.FtUnite, 1, 2))
	want := nms(1, 0, 1, 0, 1, 1, 1, 2, 1, 5, 1, 4, 1, 3, 1, 3)
	if got := checkNames(t, "two blocks", h); !slices.Equal(got, want) {
		t.Error("two blocks have", got)
	}
	for n, at := range map[impl.Name]int64{nm(1, 0): 0, nm(1, 1): 2, nm(1, 3): 6, nm(1, 6): -1, nm(2, 0): -1, nm(3, 0): -1, nm(0, 0): -1, nm(4, 0): -1, nm(1, -1): -1} {
		if i, ok := impl.FindName(h, n); i != at || ok != (at >= 0) {
			t.Error(n, "is at", i, ok, "not", at)
		}
	}
	// The edges of a bow have inside on both sides: the name is on a plane and on that plane turned round.
	bow := hs(ft(1, impl.FtPrism, 0, 0, 0, 1, 0, 0, 2, 2, 2, 0, 0, 2))
	if i, ok := impl.FindName(bow, nm(1, 2)); !ok || i != 2 {
		t.Error("the first edge of a bow is at", i, ok)
	}
}

func TestNamesMany(t *testing.T) {
	t.Parallel()
	d := dice(193)
	named := 0
	for i := range 80 {
		h := d.history(1 + i%8)
		if len(checkNames(t, i, h)) > 0 {
			named++
		}
		// Each feature is the last one of a history.
		for k := range h.Feats {
			checkNames(t, i, impl.History{Params: h.Params, Feats: h.Feats[:k]})
		}
	}
	if named < 40 {
		t.Error("too few", named)
	}
}

// isSideOf tells whether a plane, whichever side it looks to, is that of the side with this name, as the numbers now are.
func isSideOf(h impl.History, p impl.Plane, n impl.Name) bool {
	at := slices.IndexFunc(h.Feats, func(f impl.Feat) bool { return f.Id == n.Feat })
	if at < 0 {
		return false
	}
	nums, _ := wantNums(h, h.Feats[at])
	var side impl.Plane
	switch h.Feats[at].Kind {
	case impl.FtBox:
		side = boxPlanes(nums)[n.Role]
	case impl.FtPrism:
		if n.Role >= 2 {
			return p.C.Num == 0 && hasEdge(p, loopOf(nums), int(n.Role-2))
		}
		side = impl.Plane{A: q(0, 1), B: q(0, 1), C: q(1, 1), D: nums[n.Role]}
	case impl.FtHalf:
		side, _ = halfPlane(nums)
	default:
		return false
	}
	return p == side || p == turnedPlane(side)
}

// A name stands for the same side of the same feature, whatever the parameters are.
func TestNamesStandForSides(t *testing.T) {
	t.Parallel()
	d := dice(194)
	faces := 0
	for range 40 {
		h := d.history(7)
		h.Feats = slices.DeleteFunc(h.Feats, func(f impl.Feat) bool { return f.Kind == impl.FtMove })
		for i := range h.Feats {
			// What was made of a move is made of the first feature.
			for _, id := range []*int64{&h.Feats[i].On, &h.Feats[i].With} {
				if *id > 0 && !slices.ContainsFunc(h.Feats[:i], func(f impl.Feat) bool { return f.Id == *id }) {
					*id = h.Feats[0].Id
				}
			}
		}
		for range 3 {
			for i := range h.Params {
				h.Params[i] = q(d.upTo(3), 1)
			}
			names := checkNames(t, h, h)
			list, _ := impl.Rebuild(h)
			for i, n := range names {
				faces++
				if p := list[len(list)-1].Solid.Faces[i].Plane; !isSideOf(h, p, n) {
					t.Error(h, "calls the plane", p, n)
				}
			}
		}
	}
	if faces < 400 {
		t.Error("too few faces", faces)
	}
	// A box that is drawn out keeps its names, and each is still on its side.
	h := workshop()
	for width := int64(3); width < 9; width++ {
		o := params(h, q(width, 1), q(3, 1), q(1, 2))
		i, ok1 := impl.FindName(o, nm(2, 3))
		list, ok2 := impl.Rebuild(o)
		if p := list[7].Solid.Faces[max(i, 0)].Plane; !ok1 || !ok2 || p != (impl.Plane{A: q(1, 1), B: q(0, 1), C: q(0, 1), D: q(width, 1)}) {
			t.Error("with the width", width, "the right side is at", i, p)
		}
	}
}
