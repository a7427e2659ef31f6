package tests

import (
	"math/big"
	"slices"
	"testing"

	"loop.example/g00022/impl"
)

// Promise 17: what a tree answers is what the list of its boxes does.

func haveCommon(a, b impl.Bx) bool {
	lo, hi, from, to := point3Of(a.Lo), point3Of(a.Hi), point3Of(b.Lo), point3Of(b.Hi)
	for i := range lo {
		if hi[i].Cmp(from[i]) < 0 || to[i].Cmp(lo[i]) < 0 {
			return false
		}
	}
	return true
}

func inCrate(b impl.Bx, p point3) bool {
	lo, hi := point3Of(b.Lo), point3Of(b.Hi)
	for i := range p {
		if p[i].Cmp(lo[i]) < 0 || p[i].Cmp(hi[i]) > 0 {
			return false
		}
	}
	return true
}

// wantVisited counts as the document says, from node to node.
func wantVisited(tree []impl.Node, b impl.Bx, at int64) int64 {
	if n := tree[at]; n.Item < 0 && haveCommon(n.Box, b) {
		return 1 + wantVisited(tree, b, n.Left) + wantVisited(tree, b, n.Right)
	}
	return 1
}

// checkOverlaps tells how many there are, and how many nodes are looked at.
func checkOverlaps(t *testing.T, name any, list []impl.Bx, b impl.Bx) (int, int64) {
	t.Helper()
	tree, _ := impl.BuildTree(list)
	var want []int64
	for i, o := range list {
		if haveCommon(o, b) {
			want = append(want, int64(i))
		}
	}
	got, ok := impl.Overlaps(tree, b)
	if !ok || !slices.Equal(got, want) {
		t.Fatal(name, b, "has", got, ok, "not", want, "of", list)
	}
	count, ok := impl.Visited(tree, b)
	if wanted := wantVisited(tree, b, 0); !ok || count != wanted {
		t.Fatal(name, b, "looks at", count, ok, "not", wanted, "of", list)
	}
	return len(want), count
}

// wantEntry tries all k at which the way is on a face's plane, and 0.
func wantEntry(b impl.Bx, from, dir point3) (*big.Rat, bool) {
	list := []*big.Rat{new(big.Rat)}
	for i := range from {
		if dir[i].Sign() != 0 {
			for _, v := range []impl.V3{b.Lo, b.Hi} {
				list = append(list, new(big.Rat).Quo(minusRat(point3Of(v)[i], from[i]), dir[i]))
			}
		}
	}
	slices.SortFunc(list, (*big.Rat).Cmp)
	for _, k := range list {
		if k.Sign() >= 0 && inCrate(b, from.plus(dir.times(k))) {
			return k, true
		}
	}
	return nil, false
}

func wantHit(list []impl.Bx, from, dir impl.V3) (int64, impl.Q, bool) {
	item, least := int64(-1), new(big.Rat)
	for i, b := range list {
		if k, met := wantEntry(b, point3Of(from), point3Of(dir)); met && (item < 0 || k.Cmp(least) < 0) {
			item, least = int64(i), k
		}
	}
	told, ok := asQ(least)
	if item < 0 || !ok {
		return -1, impl.Q{}, false
	}
	return item, told, true
}

func checkHit(t *testing.T, name any, list []impl.Bx, from, dir impl.V3) (int64, bool) {
	t.Helper()
	tree, _ := impl.BuildTree(list)
	want, wantK, fine := wantHit(list, from, dir)
	item, k, ok := impl.FirstHit(tree, from, dir)
	if ok != fine || item != want || k != wantK {
		t.Fatal(name, "from", from, "along", dir, "meets", item, k, ok, "not", want, wantK, fine, "of", list)
	}
	return item, ok
}

// wantClosest tries, in each coordinate, both ends of the box and the place itself.
func wantClosest(list []impl.Bx, p impl.V3) (int64, impl.Q, bool) {
	item, least := int64(-1), new(big.Rat)
	at := point3Of(p)
	for i, b := range list {
		lo, hi := point3Of(b.Lo), point3Of(b.Hi)
		for k := range 27 {
			o := point3{[]*big.Rat{lo[0], hi[0], at[0]}[k%3], []*big.Rat{lo[1], hi[1], at[1]}[k/3%3], []*big.Rat{lo[2], hi[2], at[2]}[k/9]}
			if far := o.minus(at).dot(o.minus(at)); inCrate(b, o) && (item < 0 || far.Cmp(least) < 0) {
				item, least = int64(i), far
			}
		}
	}
	told, ok := asQ(least)
	if !ok {
		return -1, impl.Q{}, false
	}
	return item, told, true
}

func checkClosest(t *testing.T, name any, list []impl.Bx, p impl.V3) (int64, bool) {
	t.Helper()
	tree, _ := impl.BuildTree(list)
	want, wantFar, fine := wantClosest(list, p)
	item, far, ok := impl.Closest(tree, p)
	if ok != fine || item != want || far != wantFar {
		t.Fatal(name, p, "is nearest to", item, far, ok, "not", want, wantFar, fine, "of", list)
	}
	return item, ok
}

func TestOverlapsByHand(t *testing.T) {
	cubes := []impl.Bx{crate(0, 0, 0, 2, 2, 2), crate(4, 0, 0, 6, 2, 2), crate(0, 4, 0, 2, 6, 2), crate(4, 4, 4, 6, 6, 6)}
	for _, c := range []struct {
		name string
		b    impl.Bx
		want []int64
	}{
		{"apart", crate(10, 10, 10, 11, 11, 11), nil},
		{"apart along X", crate(3, 0, 0, 3, 2, 2), nil},
		{"apart along Y", crate(0, 3, 0, 2, 3, 2), nil},
		{"apart along Z", crate(0, 0, 3, 6, 6, 3), nil},
		{"around", crate(-1, -1, -1, 9, 9, 9), []int64{0, 1, 2, 3}},
		{"inside", impl.Bx{Lo: v3(1, 1, 1), Hi: impl.V3{X: q(3, 2), Y: q(3, 2), Z: q(3, 2)}}, []int64{0}},
		{"the same", cubes[3], []int64{3}},
		{"at a corner", crate(2, 2, 2, 4, 3, 3), []int64{0, 1}},
		{"at a corner from below", crate(-1, -1, -1, 0, 0, 0), []int64{0}},
		{"along an edge", crate(2, 2, 0, 3, 3, 2), []int64{0}},
		{"over a face", crate(2, 0, 0, 3, 2, 2), []int64{0}},
		{"over two faces", crate(2, 0, 0, 4, 2, 2), []int64{0, 1}},
		{"a place inside", crate(5, 1, 1, 5, 1, 1), []int64{1}},
		{"a place on a face", crate(4, 1, 1, 4, 1, 1), []int64{1}},
		{"a place on a corner", crate(6, 6, 6, 6, 6, 6), []int64{3}},
		{"a place between", crate(3, 1, 1, 3, 1, 1), nil},
		{"a line through", crate(-9, 1, 1, 9, 1, 1), []int64{0, 1}},
		{"a line beside", crate(-9, 1, 3, 9, 1, 3), nil},
		{"a plane through", crate(-9, -9, 2, 9, 9, 2), []int64{0, 1, 2}},
		{"a plane through the last", crate(-9, -9, 5, 9, 9, 5), []int64{3}},
	} {
		checkOverlaps(t, c.name, cubes, c.b)
		tree, _ := impl.BuildTree(cubes)
		if got, ok := impl.Overlaps(tree, c.b); !ok || !slices.Equal(got, c.want) {
			t.Error(c.name, "has", got, ok, "not", c.want)
		}
	}
	// Flat ones of each kind, against one another.
	flat := []impl.Bx{crate(0, 0, 0, 0, 0, 0), crate(-1, 0, 0, 1, 0, 0), crate(0, -1, 0, 0, 1, 0), crate(0, 0, -1, 0, 0, 1), crate(-1, -1, 0, 1, 1, 0), crate(0, -1, -1, 0, 1, 1), crate(-1, 0, -1, 1, 0, 1)}
	for i, b := range flat {
		if n, _ := checkOverlaps(t, i, flat, b); n != 7 {
			t.Error(b, "has", n)
		}
		off := impl.Bx{Lo: v3(b.Lo.X.Num+2, b.Lo.Y.Num+2, b.Lo.Z.Num+2), Hi: v3(b.Hi.X.Num+2, b.Hi.Y.Num+2, b.Hi.Z.Num+2)}
		if n, _ := checkOverlaps(t, i, flat, off); n != 0 {
			t.Error(off, "has", n)
		}
	}
}

func TestVisitedByHand(t *testing.T) {
	row := []impl.Bx{crate(0, 0, 0, 1, 1, 1), crate(2, 0, 0, 3, 1, 1), crate(4, 0, 0, 5, 1, 1), crate(6, 0, 0, 7, 1, 1)}
	for _, c := range []struct {
		name  string
		b     impl.Bx
		items int
		want  int64
	}{
		{"far away", crate(9, 9, 9, 9, 9, 9), 0, 1},
		{"all", crate(-9, -9, -9, 9, 9, 9), 4, 7},
		// Within the box of the first node and of the left one, and in no leaf.
		{"between two leaves", impl.Bx{Lo: impl.V3{X: q(3, 2), Y: q(0, 1), Z: q(0, 1)}, Hi: impl.V3{X: q(3, 2), Y: q(1, 1), Z: q(1, 1)}}, 0, 5},
		{"between two halves", impl.Bx{Lo: impl.V3{X: q(7, 2), Y: q(0, 1), Z: q(0, 1)}, Hi: impl.V3{X: q(7, 2), Y: q(1, 1), Z: q(1, 1)}}, 0, 3},
		{"at one leaf", crate(0, 0, 0, 0, 0, 0), 1, 5},
		{"at the last face", crate(7, 1, 1, 8, 8, 8), 1, 5},
		{"at two of one half", crate(1, 0, 0, 2, 0, 0), 2, 5},
		{"at two of both halves", crate(3, 0, 0, 4, 0, 0), 2, 7},
	} {
		if n, count := checkOverlaps(t, c.name, row, c.b); n != c.items || count != c.want {
			t.Error(c.name, "has", n, "and looks at", count)
		}
	}
	for _, b := range []impl.Bx{crate(0, 0, 0, 0, 0, 0), crate(9, 9, 9, 9, 9, 9)} {
		if _, count := checkOverlaps(t, "one alone", row[:1], b); count != 1 {
			t.Error("one alone looks at", count)
		}
	}
}

func TestOverlapsMany(t *testing.T) {
	t.Parallel()
	d := dice(20)
	none, some, saved := 0, 0, 0
	for i := range 500 {
		list := d.crates(1+int(d.next()%30), i%crateKinds)
		for _, b := range append(d.crates(3, int(d.next()%3)), list[0]) {
			n, count := checkOverlaps(t, i, list, b)
			if n == 0 {
				none++
			} else {
				some++
			}
			if count < int64(2*len(list)-1) {
				saved++
			}
		}
	}
	if none < 300 || some < 300 || saved < 500 {
		t.Error("too few of a kind", none, some, saved)
	}
}

func TestHitsByHand(t *testing.T) {
	a, b, c := crate(0, 0, 0, 2, 2, 2), crate(4, 0, 0, 6, 2, 2), crate(4, 0, 0, 6, 2, 2)
	list := []impl.Bx{c, b, a}
	half := func(x, y, z int64) impl.V3 {
		v, _ := fraction3(x, y, z, 2).place()
		return v
	}
	for _, o := range []struct {
		name      string
		from, dir impl.V3
		item      int64
		k         impl.Q
		ok        bool
	}{
		{"into the first", v3(-3, 1, 1), v3(1, 0, 0), 2, q(3, 1), true},
		{"in steps of two", v3(-3, 1, 1), v3(2, 0, 0), 2, q(3, 2), true},
		{"in small steps", v3(-3, 1, 1), impl.V3{X: q(1, 7), Y: q(0, 1), Z: q(0, 1)}, 2, q(21, 1), true},
		{"from the other side, several at once", v3(9, 1, 1), v3(-1, 0, 0), 0, q(3, 1), true},
		{"from between, back", v3(3, 1, 1), v3(-1, 0, 0), 2, q(1, 1), true},
		{"from between, on", v3(3, 1, 1), v3(1, 0, 0), 0, q(1, 1), true},
		{"from inside", v3(1, 1, 1), v3(1, 0, 0), 2, q(0, 1), true},
		{"from inside, the other way", v3(1, 1, 1), v3(-5, 3, 2), 2, q(0, 1), true},
		{"from a face, in", v3(0, 1, 1), v3(1, 0, 0), 2, q(0, 1), true},
		{"from a face, away", v3(0, 1, 1), v3(-1, 0, 0), 2, q(0, 1), true},
		{"from a face, along it", v3(0, 1, 1), v3(0, 1, 0), 2, q(0, 1), true},
		{"from a corner, away", v3(0, 0, 0), v3(-1, -1, -1), 2, q(0, 1), true},
		{"from an edge, away", v3(2, 2, 1), v3(1, 1, 0), 2, q(0, 1), true},
		{"behind", v3(7, 1, 1), v3(1, 0, 0), -1, impl.Q{}, false},
		{"behind, by a little", v3(9, 1, 1), v3(1, 0, 0), -1, impl.Q{}, false},
		{"past", v3(-3, 3, 1), v3(1, 0, 0), -1, impl.Q{}, false},
		{"past below", v3(-3, 1, -1), v3(1, 0, 0), -1, impl.Q{}, false},
		{"along a face", v3(-3, 2, 1), v3(1, 0, 0), 2, q(3, 1), true},
		{"along an edge", v3(-3, 2, 2), v3(1, 0, 0), 2, q(3, 1), true},
		{"through a corner", v3(-1, 0, 1), v3(1, -1, 1), -1, impl.Q{}, false},
		{"through a corner, just", v3(-1, 1, 1), v3(1, -1, -1), 2, q(1, 1), true},
		{"through an edge", v3(-1, 1, 1), v3(1, 1, 0), 2, q(1, 1), true},
		{"past an edge", v3(-1, 2, 1), v3(1, 1, 0), -1, impl.Q{}, false},
		{"aslant", v3(-2, -1, 1), v3(2, 1, 0), 2, q(1, 1), true},
		{"aslant, through the gap", v3(1, -3, 1), v3(2, 3, 0), 0, q(3, 2), true},
		{"aslant, past the near one", v3(2, -1, 1), v3(1, 1, 0), 0, q(2, 1), true},
		{"down", v3(5, 1, 9), v3(0, 0, -1), 0, q(7, 1), true},
		{"up", half(9, 1, -1), v3(0, 0, 3), 0, q(1, 6), true},
		{"in all three", v3(9, 5, 5), v3(-1, -1, -1), 0, q(3, 1), true},
		{"far away", v3(top, 1, 1), v3(-1, 0, 0), 0, q(top-6, 1), true},
		{"in one great step", v3(top, 1, 1), v3(-top, 0, 0), 0, q(top/2-3, top/2), true},
	} {
		checkHit(t, o.name, list, o.from, o.dir)
		tree, _ := impl.BuildTree(list)
		if item, k, ok := impl.FirstHit(tree, o.from, o.dir); item != o.item || k != o.k || ok != o.ok {
			t.Error(o.name, "meets", item, k, ok, "not", o.item, o.k, o.ok)
		}
	}
	// Flat ones: met at their place, along their line and plane, and past them.
	flat := []impl.Bx{crate(5, 0, 0, 5, 0, 0), crate(3, -1, 0, 3, 1, 0), crate(1, -1, -1, 1, 1, 1)}
	for _, o := range []struct {
		from, dir impl.V3
		item      int64
	}{
		{v3(9, 0, 0), v3(-1, 0, 0), 0}, {v3(4, 0, 0), v3(-1, 0, 0), 1}, {v3(2, 0, 0), v3(-1, 0, 0), 2}, {v3(0, 0, 0), v3(1, 0, 0), 2}, {v3(5, 0, 0), v3(0, 0, 1), 0}, {v3(5, 0, 1), v3(0, 1, 0), -1},
		{v3(3, -9, 0), v3(0, 1, 0), 1}, {v3(3, -9, 1), v3(0, 9, -1), 1}, {v3(3, -9, 1), v3(0, 11, -1), -1}, {v3(1, 9, 9), v3(0, -1, -1), 2}, {v3(1, 9, 9), v3(0, -1, -3), -1}, {v3(0, 1, 0), v3(1, 0, 0), 2}, {v3(0, 1, 1), v3(3, -1, -1), 2},
	} {
		if item, _ := checkHit(t, "flat", flat, o.from, o.dir); item != o.item {
			t.Error("from", o.from, "along", o.dir, "it meets", item, "not", o.item)
		}
	}
}

func TestHitsMany(t *testing.T) {
	t.Parallel()
	d := dice(21)
	met, missed, inside := 0, 0, 0
	for i := range 800 {
		list := d.crates(1+int(d.next()%25), i%crateKinds)
		for range 4 {
			from, dir := v3(d.upTo(12), d.upTo(12), d.upTo(12)), v3(d.upTo(4), d.upTo(4), d.upTo(4))
			if d.next()%3 == 0 {
				dir = []impl.V3{v3(1, 0, 0), v3(0, -2, 0), v3(0, 0, 3), v3(0, 1, -1), v3(1, 0, 1), v3(-1, 1, 0)}[d.next()%6]
			}
			at := point3Of(list[d.next()%uint64(len(list))].Hi)
			if to, ok := at.minus(point3Of(from)).place(); ok && d.next()%2 == 0 {
				dir = to
			}
			if d.next()%5 == 0 {
				from, _ = at.place()
			}
			if dir == v3(0, 0, 0) {
				continue
			}
			if item, ok := checkHit(t, i, list, from, dir); !ok {
				missed++
			} else if inCrate(list[item], point3Of(from)) {
				inside++
			} else {
				met++
			}
		}
	}
	if met < 300 || missed < 300 || inside < 300 {
		t.Error("too few of a kind", met, missed, inside)
	}
}

func TestHitsRefused(t *testing.T) {
	d := dice(22)
	tree, _ := impl.BuildTree(d.crates(9, 0))
	none := func(name any, from, dir impl.V3) {
		t.Helper()
		if item, k, ok := impl.FirstHit(tree, from, dir); item != -1 || k != (impl.Q{}) || ok {
			t.Error(name, "from", from, "along", dir, "meets", item, k, ok)
		}
	}
	none("no way", v3(0, 0, 0), v3(0, 0, 0))
	none("no way from a box", impl.V3{X: tree[8].Box.Lo.X, Y: tree[8].Box.Lo.Y, Z: tree[8].Box.Lo.Z}, v3(0, 0, 0))
	for _, bad := range broken3() {
		none("a broken place", bad, v3(1, 0, 0))
		none("a broken way", v3(0, 0, 0), bad)
		none("both broken", bad, bad)
	}
	// A k that is no Q, whether another box is met behind or not; and one that just is.
	one := []impl.Bx{crate(0, 0, 0, 1, 1, 1), crate(5, 0, 0, 6, 1, 1)}
	for _, o := range []struct {
		from, dir impl.V3
		ok        bool
	}{
		{v3(-top, 1, 1), v3(1, 0, 0), true}, {v3(-top, 1, 1), impl.V3{X: q(1, 2), Y: q(0, 1), Z: q(0, 1)}, false}, {v3(-top/2, 1, 1), impl.V3{X: q(1, 2), Y: q(0, 1), Z: q(0, 1)}, true},
		{impl.V3{X: q(-1, top), Y: q(1, 1), Z: q(1, 1)}, v3(3, 0, 0), false}, {impl.V3{X: q(-1, top), Y: q(1, 1), Z: q(1, 1)}, v3(1, 0, 0), true},
		{impl.V3{X: q(-1, 999999937), Y: q(1, 1), Z: q(1, 1)}, v3(999999929, 0, 0), true}, {impl.V3{X: q(-1, 9999999937), Y: q(1, 1), Z: q(1, 1)}, v3(999999929, 0, 0), false},
		{v3(top, 0, 0), v3(1-top, 0, 0), true}, {v3(top, 0, 0), impl.V3{X: q(-7, top), Y: q(0, 1), Z: q(0, 1)}, false},
		{impl.V3{X: q(1, 2), Y: q(1, 2), Z: q(1, top)}, impl.V3{X: q(1, top), Y: q(1, top), Z: q(1, top-1)}, true},
	} {
		if _, ok := checkHit(t, "great numbers", one, o.from, o.dir); ok != o.ok {
			t.Error("from", o.from, "along", o.dir, ok)
		}
	}
	fine, refused := 0, 0
	for _, f := range edgeFractions() {
		for _, g := range edgeFractions() {
			if g.Num == 0 {
				continue
			}
			if _, ok := checkHit(t, f, one, impl.V3{X: f, Y: q(1, 1), Z: q(0, 1)}, impl.V3{X: g, Y: q(0, 1), Z: q(0, 1)}); ok {
				fine++
			} else {
				refused++
			}
		}
	}
	if fine < 100 || refused < 100 {
		t.Error("too few of a kind", fine, refused)
	}
}

func TestClosestByHand(t *testing.T) {
	list := []impl.Bx{crate(4, 0, 0, 6, 2, 2), crate(0, 0, 0, 2, 2, 2), crate(0, 0, 0, 1, 1, 1), crate(9, 9, 9, 9, 9, 9)}
	for _, o := range []struct {
		name string
		p    impl.V3
		item int64
		far  impl.Q
	}{
		{"inside", v3(5, 1, 1), 0, q(0, 1)},
		{"inside of two", impl.V3{X: q(1, 2), Y: q(1, 2), Z: q(1, 2)}, 1, q(0, 1)},
		{"on a face", v3(4, 1, 1), 0, q(0, 1)},
		{"on an edge", v3(2, 2, 1), 1, q(0, 1)},
		{"on a corner", v3(2, 2, 2), 1, q(0, 1)},
		{"on a corner of two", v3(0, 0, 0), 1, q(0, 1)},
		{"nearest to a face", v3(1, 1, 5), 1, q(9, 1)},
		{"nearest to an edge", v3(7, 3, 1), 0, q(2, 1)},
		{"nearest to a corner", v3(7, 3, 3), 0, q(3, 1)},
		{"as near to two", v3(3, 1, 1), 0, q(1, 1)},
		{"a little nearer", impl.V3{X: q(29, 10), Y: q(1, 1), Z: q(1, 1)}, 1, q(81, 100)},
		{"nearest to a place", v3(9, 9, 10), 3, q(1, 1)},
		{"at a place", v3(9, 9, 9), 3, q(0, 1)},
		{"far below", v3(-3, -4, -12), 1, q(169, 1)},
		{"as near to a corner as to a place", v3(9, 9, 8), 3, q(1, 1)},
	} {
		checkClosest(t, o.name, list, o.p)
		tree, _ := impl.BuildTree(list)
		if item, far, ok := impl.Closest(tree, o.p); !ok || item != o.item || far != o.far {
			t.Error(o.name, "is nearest to", item, far, ok, "not", o.item, o.far)
		}
	}
}

func TestClosestMany(t *testing.T) {
	t.Parallel()
	d := dice(23)
	zero, far := 0, 0
	for i := range 300 {
		list := d.crates(1+int(d.next()%20), i%crateKinds)
		for range 3 {
			p := v3(d.upTo(12), d.upTo(12), d.upTo(12))
			if d.next()%2 == 0 {
				p = impl.V3{X: q(2*d.upTo(9)+1, 2), Y: q(d.upTo(9), 1), Z: q(3*d.upTo(9)+1, 3)}
			}
			if d.next()%3 == 0 {
				p = list[d.next()%uint64(len(list))].Lo
			}
			item, ok := checkClosest(t, i, list, p)
			if ok && inCrate(list[item], point3Of(p)) {
				zero++
			} else {
				far++
			}
		}
	}
	if zero < 100 || far < 300 {
		t.Error("too few of a kind", zero, far)
	}
	tree, _ := impl.BuildTree(d.crates(9, 0))
	for _, bad := range broken3() {
		if item, far, ok := impl.Closest(tree, bad); item != -1 || far != (impl.Q{}) || ok {
			t.Error(bad, "is nearest to", item, far)
		}
	}
	// A square that is no Q, and one that just is.
	one := []impl.Bx{crate(0, 0, 0, 1, 1, 1), crate(-4, -4, -4, -3, -3, -3)}
	for p, want := range map[impl.V3]bool{
		v3(1000000001, 0, 0): true, v3(1000000002, 0, 0): false, v3(0, -1000000000-3, 0): true, v3(-1000000003, 0, 0): true, v3(-1000000005, 0, 0): false, v3(top, 0, 0): false, v3(top, top, top): false,
		{X: q(-1, 1000000000), Y: q(0, 1), Z: q(0, 1)}: true, {X: q(-1, 1000000001), Y: q(0, 1), Z: q(0, 1)}: false, {X: q(0, 1), Y: q(0, 1), Z: q(-1, top)}: false,
		{X: q(1, top), Y: q(1, top), Z: q(1, top)}: true,
	} {
		if _, ok := checkClosest(t, "great numbers", one, p); ok != want {
			t.Error(p, "has a square:", ok)
		}
	}
}

// A broken box, and one with a Lo above its Hi.
func TestOverlapsRefused(t *testing.T) {
	d := dice(24)
	for _, n := range []int{1, 2, 7, 60} {
		tree, _ := impl.BuildTree(d.crates(n, n%crateKinds))
		for _, bad := range brokenCrates() {
			items, ok1 := impl.Overlaps(tree, bad)
			count, ok2 := impl.Visited(tree, bad)
			if ok1 || ok2 || len(items) > 0 || count != 0 {
				t.Error(bad, "has", items, "and looks at", count)
			}
		}
	}
}

// The order of the boxes changes their numbers, and nothing else.
func TestAnswersInAnyOrder(t *testing.T) {
	t.Parallel()
	d := dice(25)
	for i := range 200 {
		list := d.crates(2+int(d.next()%20), i%crateKinds)
		at := make([]int, len(list))
		for k := range at {
			at[k] = k
		}
		for k := range at {
			j := k + int(d.next()%uint64(len(at)-k))
			at[k], at[j] = at[j], at[k]
		}
		mixed := make([]impl.Bx, len(list))
		for k, b := range list {
			mixed[at[k]] = b
		}
		one, _ := impl.BuildTree(list)
		two, _ := impl.BuildTree(mixed)
		if one[0].Box != two[0].Box || len(one) != len(two) {
			t.Fatal("the first nodes are unlike", one[0], two[0])
		}
		b, from, dir := d.crates(1, 0)[0], v3(d.upTo(12), d.upTo(12), d.upTo(12)), v3(1, d.upTo(3), d.upTo(3))
		first, _ := impl.Overlaps(one, b)
		var moved []int64
		for _, k := range first {
			moved = append(moved, int64(at[k]))
		}
		slices.Sort(moved)
		if second, ok := impl.Overlaps(two, b); !ok || !slices.Equal(second, moved) {
			t.Error("overlaps", second, "not", moved)
		}
		_, k1, ok1 := impl.FirstHit(one, from, dir)
		_, k2, ok2 := impl.FirstHit(two, from, dir)
		_, far1, ok3 := impl.Closest(one, from)
		_, far2, ok4 := impl.Closest(two, from)
		if k1 != k2 || far1 != far2 || ok1 != ok2 || ok3 != ok4 {
			t.Error("in another order it is met at", k1, k2, "and is", far1, far2, "away")
		}
	}
}
