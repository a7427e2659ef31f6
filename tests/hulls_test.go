package tests

import (
	"math/big"
	"slices"
	"testing"

	"loop.example/g00022/impl"
)

// Promise 9.

// wantHull tries each two places: a way from corner to corner has nothing on its right, and goes as far as it can.
func wantHull(list []impl.V) []impl.V {
	points := sortedPoints(pointsOf(list))
	if onOneLine(points) && len(points) > 2 {
		points = []point{points[0], points[len(points)-1]}
	}
	corners, _ := placesOf(points)
	if len(points) < 3 {
		return corners
	}
	var loop []impl.V
	for v := corners[0]; len(loop) == 0 || v != corners[0]; {
		loop = append(loop, v)
		next := slices.IndexFunc(corners, func(o impl.V) bool { return o != v && isHullSide(corners, v, o) })
		v = corners[next]
	}
	return loop
}

func checkHull2(t *testing.T, list []impl.V) []impl.V {
	t.Helper()
	got, ok := impl.Hull2(list)
	if want := wantHull(list); !ok || !slices.Equal(got, want) {
		t.Fatal("hull of", list, got, ok, "not", want)
	}
	checkHullHolds(t, list, got)
	return got
}

// checkHullHolds: all places are in it, its corners are of them, and it is its own hull.
func checkHullHolds(t *testing.T, list, corners []impl.V) {
	t.Helper()
	for i, v := range corners {
		if !slices.Contains(list, v) || slices.Contains(corners[:i], v) {
			t.Fatal(v, "is a corner of", list)
		}
		next := corners[(i+1)%len(corners)]
		for _, o := range list {
			if impl.Turn(v, next, o) < 0 {
				t.Fatal(o, "is outside of the hull", corners)
			}
		}
		if len(corners) > 2 && impl.Turn(v, next, corners[(i+2)%len(corners)]) != 1 || impl.CmpV(corners[0], v) > 0 {
			t.Fatal("hull of", list, "is no hull:", corners)
		}
	}
	if again, ok := impl.Hull2(corners); !ok || !slices.Equal(again, corners) {
		t.Fatal("hull of the hull", corners, "is", again, ok)
	}
}

func TestHullByHand(t *testing.T) {
	sq := box(0, 0, 4, 4)
	for _, c := range []struct {
		name string
		list []impl.V
		want []impl.V
	}{
		{"none", nil, nil},
		{"one", lp(3, 1), lp(3, 1)},
		{"one, often", lp(3, 1, 3, 1, 3, 1), lp(3, 1)},
		{"two", lp(3, 1, 1, 2), lp(1, 2, 3, 1)},
		{"two, in order", lp(1, 2, 3, 1), lp(1, 2, 3, 1)},
		{"two, often", lp(3, 1, 1, 2, 3, 1, 3, 1, 1, 2), lp(1, 2, 3, 1)},
		{"upright", lp(2, 5, 2, 9, 2, 1, 2, 3), lp(2, 1, 2, 9)},
		{"level", lp(5, 2, 9, 2, 1, 2, 3, 2), lp(1, 2, 9, 2)},
		{"aslant", lp(5, 5, 9, 9, 1, 1, 3, 3), lp(1, 1, 9, 9)},
		{"aslant, falling", lp(5, -5, 9, -9, 1, -1, 3, -3, 1, -1), lp(1, -1, 9, -9)},
		{"three", lp(0, 0, 4, 0, 0, 4), lp(0, 0, 4, 0, 0, 4)},
		{"three to the right", lp(0, 0, 0, 4, 4, 0), lp(0, 0, 4, 0, 0, 4)},
		{"three, begun elsewhere", lp(4, 0, 0, 4, 0, 0), lp(0, 0, 4, 0, 0, 4)},
		{"a square", sq, sq},
		{"a square, to the right", backward(sq), sq},
		{"a square, twice", slices.Concat(sq, backward(sq)), sq},
		{"places inside", append(lp(1, 1, 2, 2, 3, 1, 2, 3), sq...), sq},
		{"places on edges", append(lp(0, 2, 2, 0, 4, 2, 2, 4, 1, 0, 0, 1), sq...), sq},
		{"places on edges, several times", append(lp(0, 2, 0, 2, 2, 4, 2, 4, 4, 4, 0, 0), sq...), sq},
		{"a grid", grid(6, 5), box(0, 0, 5, 4)},
		{"the least is not alone", lp(0, 3, 0, 1, 0, 2, 5, 2), lp(0, 1, 5, 2, 0, 3)},
		{"the greatest is not alone", lp(5, 3, 5, 1, 5, 2, 0, 2), lp(0, 2, 5, 1, 5, 3)},
		{"round", append(round(), lp(0, 0, 1, 1, -4, 0)...), begun(round(), 6)},
		{"straight on, but for a little", []impl.V{at(0, 0), {X: q(1, 1), Y: q(-1, top)}, at(2, 0), at(1, 1)}, []impl.V{at(0, 0), {X: q(1, 1), Y: q(-1, top)}, at(2, 0), at(1, 1)}},
		{"inside by a little", []impl.V{at(0, 0), {X: q(1, 1), Y: q(1, top)}, at(2, 0), at(1, 1)}, lp(0, 0, 2, 0, 1, 1)},
		{"great", lp(-top, -top, top, -top, top, top, -top, top, top-1, top-1, 0, 0), box(-top, -top, top, top)},
		{"great, hardly a corner", lp(-top, -top, top, top, 0, -1, 0, 1, 1, 1), lp(-top, -top, 0, -1, top, top, 0, 1)},
		{"great, on one line", lp(-top, -top+1, top-1, top, 0, 1, -1, 0), lp(-top, -top+1, top-1, top)},
	} {
		if got := checkHull2(t, c.list); !slices.Equal(got, c.want) {
			t.Error(c.name, got)
		}
	}
}

func TestHullInEveryOrder(t *testing.T) {
	for _, list := range [][]impl.V{lp(0, 0, 2, 0, 4, 0, 4, 4, 1, 1, 0, 4), lp(0, 0, 1, 2, 0, 4, 0, 2, 1, 2, 0, 0), lp(0, 0, 1, 1, 2, 2, 3, 3, 1, 1, 5, 5)} {
		want := wantHull(list)
		for _, o := range orders(len(list)) {
			if got, ok := impl.Hull2(pick(list, o)); !ok || !slices.Equal(got, want) {
				t.Fatal("hull of", pick(list, o), got, ok, "not", want)
			}
		}
	}
}

func TestHullMany(t *testing.T) {
	for kind := range spotKinds {
		s := &spots{dice(900 + kind), kind}
		for range []int{120, 60, 60, 60, 30}[kind] {
			var list []impl.V
			for range s.next() % 13 {
				v := s.place()
				list = append(list, v)
				if s.next()%4 == 0 {
					list = append(list, v)
				}
			}
			checkHull2(t, list)
		}
	}
}

// bowl is a convex loop of n places, begun with the least one: they lie on a parabola.
func bowl(n int64) []impl.V {
	var loop []impl.V
	for x := range n {
		loop = append(loop, at(x, x*x))
	}
	return loop
}

func TestHullLimits(t *testing.T) {
	loop := bowl(impl.MaxList)
	if got, ok := impl.Hull2(backward(loop)); !ok || !slices.Equal(got, loop) {
		t.Error("as many corners as there may be", got, ok)
	}
	if got, ok := impl.Hull2(append(loop, at(0, 0))); ok || len(got) != 0 {
		t.Error("one place too many", got, ok)
	}
	if got, ok := impl.Hull2(make([]impl.V, impl.MaxList)); ok || len(got) != 0 {
		t.Error("places that are none", got, ok)
	}
	many := slices.Repeat(lp(1, 1, 0, 0, 2, 2, 1, 0), 50)
	if got, ok := impl.Hull2(many); !ok || !slices.Equal(got, lp(0, 0, 1, 0, 2, 2)) {
		t.Error("places many times", got, ok)
	}
	for _, v := range brokenPlaces() {
		for i := range 4 {
			broken := lp(0, 0, 4, 0, 4, 5, 1, 3)
			broken[i] = v
			if got, ok := impl.Hull2(broken); ok || len(got) != 0 {
				t.Error(v, "is taken for a place", got, ok)
			}
		}
		if _, ok := impl.Hull2([]impl.V{v}); ok {
			t.Error(v, "alone is taken for a place")
		}
	}
}

// wantFarthest puts all pairs in order by distance, and then as they come.
func wantFarthest(list []impl.V) (impl.Pair, *big.Rat) {
	type far struct {
		p      impl.Pair
		square *big.Rat
	}
	var all []far
	for j := range list {
		for i := range j {
			all = append(all, far{pair(int64(i), int64(j)), square(pointOf(list[i]), pointOf(list[j]))})
		}
	}
	slices.SortFunc(all, func(a, b far) int {
		if c := b.square.Cmp(a.square); c != 0 {
			return c
		}
		return comparePairs(a.p, b.p)
	})
	return all[0].p, all[0].square
}

func checkFarthest(t *testing.T, list []impl.V) (impl.Pair, bool) {
	t.Helper()
	want, far := wantFarthest(list)
	square, fine := asQ(far)
	if !fine {
		want = impl.Pair{}
	}
	i, j, got, ok := impl.Farthest(list)
	if ok != fine || pair(i, j) != want || got != square {
		t.Fatal("farthest of", list, i, j, got, ok, "not", want, square, fine)
	}
	return want, ok
}

func TestFarthestByHand(t *testing.T) {
	const wide = 1000000000
	for _, c := range []struct {
		name string
		list []impl.V
		a, b int64
		far  impl.Q
	}{
		{"two", lp(1, 1, 4, 5), 0, 1, q(25, 1)},
		{"two alike", lp(1, 1, 1, 1), 0, 1, q(0, 1)},
		{"all alike", lp(1, 1, 1, 1, 1, 1), 0, 1, q(0, 1)},
		{"three", lp(1, 1, 0, 0, 4, 5), 1, 2, q(41, 1)},
		{"a square", box(0, 0, 2, 2), 0, 2, q(8, 1)},
		{"a square, otherwise", lp(0, 0, 2, 0, 0, 2, 2, 2), 0, 3, q(8, 1)},
		{"a square behind its middle", append(lp(1, 1), box(0, 0, 2, 2)...), 1, 3, q(8, 1)},
		{"a row", lp(2, 0, 0, 0, 1, 0, 3, 0, 0, 0, 3, 0), 1, 3, q(9, 1)},
		{"on a circle", round(), 0, 6, q(100, 1)},
		{"alike, far", lp(3, 3, 0, 0, 3, 3, 0, 0), 0, 1, q(18, 1)},
		{"the last two", lp(0, 0, 1, 0, -8, 0, 9, 0), 2, 3, q(289, 1)},
		{"the first and the last", lp(-8, 0, 0, 0, 1, 0, 9, 0), 0, 3, q(289, 1)},
		{"fractions", []impl.V{at(0, 0), {X: q(1, 2), Y: q(1, 3)}}, 0, 1, q(13, 36)},
		{"just a Q", lp(0, 0, wide, 0), 0, 1, q(top, 1)},
		{"just a Q, aslant", lp(0, 0, 600000000, 800000000), 0, 1, q(top, 1)},
		{"just a Q, small", []impl.V{at(0, 0), {X: q(0, 1), Y: q(1, wide)}}, 0, 1, q(1, top)},
	} {
		if p, ok := checkFarthest(t, c.list); !ok || p != pair(c.a, c.b) {
			t.Error(c.name, p, ok)
		}
		if _, _, far, ok := impl.Farthest(c.list); !ok || far != c.far {
			t.Error(c.name, far, ok)
		}
	}
	for _, list := range [][]impl.V{
		lp(0, 0, wide, 1), lp(0, 0, 1, 0, wide, 1, 2, 2), lp(-top, -top, top, top), {at(0, 0), {X: q(1, wide+1), Y: q(0, 1)}},
		{at(0, 0), {X: q(1, top), Y: q(0, 1)}, {X: q(1, top-1), Y: q(0, 1)}},
	} {
		if p, ok := checkFarthest(t, list); ok {
			t.Error(list, "have a square that is no Q", p)
		}
	}
}

func TestFarthestMany(t *testing.T) {
	fine, refused := 0, 0
	for kind := range spotKinds {
		s := &spots{dice(930 + kind), kind}
		for range 60 {
			var list []impl.V
			for range 2 + s.next()%9 {
				list = append(list, s.place())
			}
			if _, ok := checkFarthest(t, list); ok {
				fine++
			} else {
				refused++
			}
		}
	}
	if fine < 100 || refused < 30 {
		t.Error("too few of a kind", fine, refused)
	}
}

func TestFarthestLimits(t *testing.T) {
	refused := func(name any, list []impl.V) {
		t.Helper()
		if i, j, far, ok := impl.Farthest(list); i != 0 || j != 0 || far != (impl.Q{}) || ok {
			t.Error(name, "have two that are farthest", i, j, far, ok)
		}
	}
	most := bowl(impl.MaxList)
	if i, j, far, ok := impl.Farthest(most); i != 0 || j != 199 || far != q(199*199+39601*39601, 1) || !ok {
		t.Error("as many as there may be", i, j, far, ok)
	}
	refused("one too many", append(most, at(0, 0)))
	refused("none", nil)
	refused("one", lp(1, 1))
	for _, v := range brokenPlaces() {
		for i := range 3 {
			broken := lp(0, 0, 4, 0, 4, 5)
			broken[i] = v
			refused(v, broken)
		}
		refused(v, []impl.V{v})
		refused(v, []impl.V{v, v})
	}
}

// wantWidth goes from each place to its foot on each edge's line.
func wantWidth(loop []impl.V) *big.Rat {
	var least *big.Rat
	for i, a := range loop {
		most := new(big.Rat)
		for _, v := range loop {
			foot := wantFoot(v, impl.Seg{A: a, B: loop[(i+1)%len(loop)]})
			if far := square(pointOf(v), foot); far.Cmp(most) > 0 {
				most = far
			}
		}
		if least == nil || most.Cmp(least) < 0 {
			least = most
		}
	}
	return least
}

func checkWidth(t *testing.T, loop []impl.V) (impl.Q, bool) {
	t.Helper()
	least := wantWidth(loop)
	want, fine := asQ(least)
	if got, ok := impl.Width2(loop); got != want || ok != fine {
		t.Fatal("width of", loop, got, ok, "not", want, fine)
	}
	// No direction has a lesser one.
	for _, d := range []impl.V{at(1, 0), at(0, 1), at(1, 1), at(1, -1), at(3, 2), at(-7, 1)} {
		var heights []*big.Rat
		for _, v := range loop {
			heights = append(heights, slant(pointOf(at(0, 0)), pointOf(d), pointOf(at(0, 0)), pointOf(v)))
		}
		wide := minusRat(slices.MaxFunc(heights, (*big.Rat).Cmp), slices.MinFunc(heights, (*big.Rat).Cmp))
		if timesRat(wide, wide).Cmp(timesRat(least, square(pointOf(at(0, 0)), pointOf(d)))) < 0 {
			t.Fatal(loop, "is narrower along", d)
		}
	}
	return want, fine
}

func TestWidthByHand(t *testing.T) {
	const wide = 1000000000
	for _, c := range []struct {
		name string
		loop []impl.V
		want impl.Q
	}{
		{"a triangle", lp(0, 0, 2, 0, 0, 2), q(2, 1)},
		{"a triangle, the least from its first edge", lp(0, 0, 8, 0, 3, 2), q(4, 1)},
		{"a triangle, the least from its second edge", lp(0, 0, 2, -3, 5, 5), q(25*25, 9+64)},
		{"a triangle, the least from its last edge", lp(0, 0, 3, 1, 1, 8), q(23*23, 65)},
		{"a square", box(0, 0, 3, 3), q(9, 1)},
		{"a square on its corner", lp(-1, 0, 0, -1, 1, 0, 0, 1), q(2, 1)},
		{"a long thin one", box(0, 0, 1000, 1), q(1, 1)},
		{"a long thin one, upright", box(0, 0, 1, 1000), q(1, 1)},
		{"a long thin one, aslant", lp(0, 0, 1, -1, 101, 99, 100, 100), q(2, 1)},
		{"a thin triangle", lp(0, 0, 1000, 0, 500, 1), q(1, 1)},
		{"round", begun(round(), 6), q(90, 1)},
		{"many", bowl(9), q(16*16, 1+8*8)},
		{"great", lp(0, 0, top, 0, 1, 1), q(1, 1)},
		{"as great as can be", box(-top/2, 0, top/2, wide), q(top, 1)},
		{"as fine as can be", []impl.V{at(0, 0), at(1, 0), {X: q(1, 1), Y: q(1, wide)}, {X: q(0, 1), Y: q(1, wide)}}, q(1, top)},
	} {
		if got, ok := checkWidth(t, c.loop); !ok || got != c.want {
			t.Error(c.name, got, ok, "not", c.want)
		}
	}
	// The least is no Q: those of other edges are 9, and a Q.
	for _, loop := range [][]impl.V{lp(0, 0, 1, 0, wide, 3), box(-top, -top, top, top), box(0, 0, wide+1, wide+1),
		{at(0, 0), at(1, 0), {X: q(1, 1), Y: q(1, top)}, {X: q(0, 1), Y: q(1, top)}}} {
		if got, ok := checkWidth(t, loop); ok {
			t.Error(loop, "has a width that is no Q", got)
		}
	}
}

func TestWidthMany(t *testing.T) {
	fine, refused := 0, 0
	for kind := range spotKinds {
		s := &spots{dice(960 + kind), kind}
		for range []int{90, 50, 30, 40, 20}[kind] {
			var list []impl.V
			for range 3 + s.next()%9 {
				list = append(list, s.place())
			}
			loop := wantHull(list)
			if len(loop) < 3 {
				continue
			}
			if _, ok := checkWidth(t, loop); ok {
				fine++
			} else {
				refused++
			}
		}
	}
	if fine < 80 || refused < 30 {
		t.Error("too few of a kind", fine, refused)
	}
}

// notOwnHulls are lists that are not their own Hull2.
func notOwnHulls() [][]impl.V {
	sq := box(0, 0, 4, 4)
	list := [][]impl.V{
		begun(sq, 1), begun(sq, 2), begun(sq, 3), backward(sq), begun(backward(sq), 3), append(box(0, 0, 4, 4), at(0, 2)), append(box(0, 0, 4, 4), at(0, 0)),
		lp(0, 0, 2, 0, 4, 0, 4, 4), lp(0, 0, 4, 0, 4, 4, 3, 1), lp(0, 0, 4, 0, 4, 4, 1, 2, 0, 4), lp(0, 0, 4, 0, 0, 4, 4, 4), lp(0, 0, 0, 0, 4, 0, 4, 4),
		lp(0, 0, 0, 4, 4, 0), lp(0, 0, 4, 4, 4, 4), lp(0, 0, 1, 1, 2, 2), lp(2, 2, 2, 2, 2, 2), lp(0, 0, 2, 2, 4, 4, 2, 2),
		begun(lp(0, 0, 4, 0, 0, 4), 1), begun(lp(0, 0, 4, 0, 0, 4), 2),
		// Twice round.
		slices.Concat(sq, sq), lp(0, 0, 4, 0, 4, 4, 0, 4, 0, 0, 4, 0, 4, 4),
	}
	for _, v := range brokenPlaces() {
		for i := range sq {
			broken := slices.Clone(sq)
			broken[i] = v
			list = append(list, broken)
		}
		list = append(list, []impl.V{v, v, v})
	}
	return list
}

func TestWidthRefused(t *testing.T) {
	refused := func(name any, loop []impl.V) {
		t.Helper()
		if w, ok := impl.Width2(loop); ok || w != (impl.Q{}) {
			t.Error(name, "has a width", w, ok)
		}
	}
	refused("none", nil)
	refused("one", lp(1, 1))
	refused("two", lp(0, 0, 4, 0))
	for _, loop := range notOwnHulls() {
		refused(loop, loop)
	}
	// From the line of its last edge, with a slope of 199, the places 99 and 100 are farthest.
	if w, ok := impl.Width2(bowl(impl.MaxList)); !ok || w != q(9900*9900/2, (1+199*199)/2) {
		t.Error("as many as there may be", w, ok)
	}
	refused("one too many", bowl(impl.MaxList+1))
}
