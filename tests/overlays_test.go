package tests

import (
	"math"
	"math/big"
	"slices"
	"testing"

	"loop.example/g00022/impl"
)

// Promise 6.

var ops = []int64{impl.OpAnd, impl.OpOr, impl.OpLess, impl.OpXor}

func isInside(op int64, a, b bool) bool {
	return []bool{false, a && b, a || b, a && !b, a != b}[op]
}

// A seam is a small piece of what two regions have for edges, with what is on its left and on its right.
type seam struct {
	pointEdge
	leftA, leftB, rightA, rightB bool
}

func seamsOf(a, b [][]point) []seam {
	ofA, ofB := edgesOf(a), edgesOf(b)
	edges := slices.Concat(ofA, ofB)
	var list []seam
	for _, p := range smallPieces(edges) {
		left, right := leftOf(p, edges), leftOf(pointEdge{p.b, p.a}, edges)
		list = append(list, seam{p, isOddly(left, ofA), isOddly(left, ofB), isOddly(right, ofA), isOddly(right, ofB)})
	}
	return list
}

// seamBorder tells the border of what the operation leaves.
func seamBorder(seams []seam, op int64) []pointEdge {
	var border []pointEdge
	for _, s := range seams {
		left, right := isInside(op, s.leftA, s.leftB), isInside(op, s.rightA, s.rightB)
		if left && !right {
			border = append(border, s.pointEdge)
		} else if right && !left {
			border = append(border, pointEdge{s.b, s.a})
		}
	}
	return border
}

// checkBoth holds all four operations, and whether one is within the other, against the oracle; it counts those that are refused.
func checkBoth(t *testing.T, a, b impl.Region) (refused int) {
	t.Helper()
	seams := seamsOf(pointLoops(a.Loops), pointLoops(b.Loops))
	for _, op := range ops {
		want, fine := toldOutline(seamBorder(seams, op))
		got, ok := impl.Both(a, b, op)
		if ok != fine || !sameLoops(got.Loops, want) {
			t.Fatal(a, op, b, "is", got, ok, "not", want, fine)
		}
		if !ok {
			refused++
		} else if !impl.RegionOk(got) {
			t.Fatal(a, op, b, "is", got, "which is no outline")
		}
	}
	want := int64(0)
	if len(seamBorder(seams, impl.OpLess)) == 0 {
		want = 1
	}
	if got := impl.Within(a, b); got != want {
		t.Fatal(a, "within", b, got)
	}
	return refused
}

func areaOf(r impl.Region) *big.Rat {
	area, _ := wantMass(pointLoops(r.Loops))
	return area
}

// checkSums asks for what follows of the four areas, and for the order of the two.
func checkSums(t *testing.T, a, b impl.Region) {
	t.Helper()
	var told [5]impl.Region
	for _, op := range ops {
		r, ok := impl.Both(a, b, op)
		if !ok {
			return
		}
		told[op] = r
		turned, ok := impl.Both(b, a, op)
		if same := sameLoops(r.Loops, turned.Loops); !ok || !same && op != impl.OpLess || same && op == impl.OpLess && !sameLoops(a.Loops, b.Loops) {
			t.Fatal(a, op, b, "the other way round", turned, ok)
		}
	}
	and, or, less, xor := told[1], told[2], told[3], told[4]
	if plusRat(areaOf(a), areaOf(b)).Cmp(plusRat(areaOf(and), areaOf(or))) != 0 || minusRat(areaOf(or), areaOf(and)).Cmp(areaOf(xor)) != 0 ||
		minusRat(areaOf(a), areaOf(and)).Cmp(areaOf(less)) != 0 {
		t.Fatal(a, b, "have areas that don't add up", told)
	}
	if r, ok := impl.Both(or, and, impl.OpLess); !ok || !sameLoops(r.Loops, xor.Loops) {
		t.Fatal(a, b, "OpOr less OpAnd is", r, "not", xor)
	}
}

func region(loops ...[]impl.V) impl.Region { return impl.Region{Loops: loops} }

type overlayCase struct {
	name               string
	a, b               impl.Region
	and, or, less, xor [][]impl.V
}

// overlayCases are pairs of regions with what the four operations should leave.
func overlayCases(t *testing.T) []overlayCase {
	sq, empty := box(0, 0, 4, 4), impl.Region{}
	ring := made(t, box(0, 0, 6, 6), box(2, 2, 4, 4))
	hole := lp(2, 2, 2, 4, 4, 4, 4, 2)
	return []overlayCase{
		{"two that cross", region(box(0, 0, 2, 2)), region(box(1, 1, 3, 3)), lps(box(1, 1, 2, 2)), lps(lp(0, 0, 2, 0, 2, 1, 3, 1, 3, 3, 1, 3, 1, 2, 0, 2)),
			lps(lp(0, 0, 2, 0, 2, 1, 1, 1, 1, 2, 0, 2)), lps(lp(0, 0, 2, 0, 2, 1, 1, 1, 1, 2, 0, 2), lp(1, 2, 2, 2, 2, 1, 3, 1, 3, 3, 1, 3))},
		{"a cross of two bars", region(box(0, 1, 3, 2)), region(box(1, 0, 2, 3)), lps(box(1, 1, 2, 2)), lps(lp(0, 1, 1, 1, 1, 0, 2, 0, 2, 1, 3, 1, 3, 2, 2, 2, 2, 3, 1, 3, 1, 2, 0, 2)),
			lps(box(0, 1, 1, 2), box(2, 1, 3, 2)), lps(box(0, 1, 1, 2), box(1, 0, 2, 1), box(1, 2, 2, 3), box(2, 1, 3, 2))},
		{"apart", region(sq), region(box(6, 0, 7, 1)), nil, lps(sq, box(6, 0, 7, 1)), lps(sq), lps(sq, box(6, 0, 7, 1))},
		{"a corner in common", region(sq), region(box(4, 4, 5, 5)), nil, lps(sq, box(4, 4, 5, 5)), lps(sq), lps(sq, box(4, 4, 5, 5))},
		{"a corner on an edge", region(sq), region(lp(1, -1, 3, -1, 2, 0)), nil, lps(sq, lp(1, -1, 3, -1, 2, 0)), lps(sq), lps(sq, lp(1, -1, 3, -1, 2, 0))},
		{"an edge in common", region(sq), region(box(4, 0, 6, 4)), nil, lps(box(0, 0, 6, 4)), lps(sq), lps(box(0, 0, 6, 4))},
		{"a part of an edge in common", region(sq), region(box(4, 1, 6, 3)), nil, lps(lp(0, 0, 4, 0, 4, 1, 6, 1, 6, 3, 4, 3, 4, 4, 0, 4)), lps(sq),
			lps(lp(0, 0, 4, 0, 4, 1, 6, 1, 6, 3, 4, 3, 4, 4, 0, 4))},
		{"the same", region(sq), region(sq), lps(sq), lps(sq), nil, nil},
		{"one in the other", region(box(0, 0, 6, 6)), region(box(2, 2, 4, 4)), lps(box(2, 2, 4, 4)), lps(box(0, 0, 6, 6)), ring.Loops, ring.Loops},
		{"the other in the one", region(box(2, 2, 4, 4)), region(box(0, 0, 6, 6)), lps(box(2, 2, 4, 4)), lps(box(0, 0, 6, 6)), nil, ring.Loops},
		{"in the other, along an edge", region(box(0, 0, 6, 6)), region(box(2, 0, 4, 4)), lps(box(2, 0, 4, 4)), lps(box(0, 0, 6, 6)),
			lps(lp(0, 0, 2, 0, 2, 4, 4, 4, 4, 0, 6, 0, 6, 6, 0, 6)), lps(lp(0, 0, 2, 0, 2, 4, 4, 4, 4, 0, 6, 0, 6, 6, 0, 6))},
		{"in the other, a corner on an edge", region(sq), region(lp(1, 1, 2, 0, 3, 1)), lps(lp(1, 1, 2, 0, 3, 1)), lps(sq),
			lps(lp(0, 0, 2, 0, 1, 1, 3, 1, 2, 0, 4, 0, 4, 4, 0, 4)), lps(lp(0, 0, 2, 0, 1, 1, 3, 1, 2, 0, 4, 0, 4, 4, 0, 4))},
		{"one that fills the hole", ring, region(box(2, 2, 4, 4)), nil, lps(box(0, 0, 6, 6)), ring.Loops, lps(box(0, 0, 6, 6))},
		{"one in the hole", region(box(0, 0, 9, 9), lp(1, 1, 1, 8, 8, 8, 8, 1)), region(box(3, 3, 4, 4)), nil, lps(box(0, 0, 9, 9), lp(1, 1, 1, 8, 8, 8, 8, 1), box(3, 3, 4, 4)),
			lps(box(0, 0, 9, 9), lp(1, 1, 1, 8, 8, 8, 8, 1)), lps(box(0, 0, 9, 9), lp(1, 1, 1, 8, 8, 8, 8, 1), box(3, 3, 4, 4))},
		{"one that covers the hole", ring, region(box(1, 1, 5, 5)), lps(box(1, 1, 5, 5), hole), lps(box(0, 0, 6, 6)),
			lps(box(0, 0, 6, 6), lp(1, 1, 1, 5, 5, 5, 5, 1)), lps(box(0, 0, 6, 6), lp(1, 1, 1, 5, 5, 5, 5, 1), box(2, 2, 4, 4))},
		{"a bar through the ring", ring, region(box(0, 2, 6, 4)), lps(box(0, 2, 2, 4), box(4, 2, 6, 4)), lps(box(0, 0, 6, 6)),
			lps(box(0, 0, 6, 2), box(0, 4, 6, 6)), lps(lp(0, 0, 6, 0, 6, 2, 4, 2, 4, 4, 6, 4, 6, 6, 0, 6, 0, 4, 2, 4, 2, 2, 0, 2))},
		{"the empty one behind", region(sq), empty, nil, lps(sq), lps(sq), lps(sq)},
		{"the empty one ahead", empty, ring, nil, ring.Loops, nil, ring.Loops},
		{"twice the empty one", empty, impl.Region{Loops: [][]impl.V{}}, nil, nil, nil, nil},
		{"an edge that is touched in the middle", region(lp(-2, -1, 0, 0, -2, 1), box(0, -1, 2, 1)), region(box(0, -1, 1, 1)), lps(box(0, -1, 1, 1)), lps(lp(-2, -1, 0, 0, -2, 1), box(0, -1, 2, 1)),
			lps(lp(-2, -1, 0, 0, -2, 1), box(1, -1, 2, 1)), lps(lp(-2, -1, 0, 0, -2, 1), box(1, -1, 2, 1))},
		{"an edge of both that both touch in the middle", region(lp(-2, -1, 0, 0, -2, 1), box(0, -1, 2, 1)), region(box(-1, -1, 0, 1), lp(0, 0, 2, -1, 2, 1)),
			lps([]impl.V{{X: q(-1, 1), Y: q(-1, 2)}, at(0, 0), {X: q(-1, 1), Y: q(1, 2)}}, lp(0, 0, 2, -1, 2, 1)),
			lps([]impl.V{at(-2, -1), {X: q(-1, 1), Y: q(-1, 2)}, at(-1, -1), at(2, -1), at(2, 1), at(-1, 1), {X: q(-1, 1), Y: q(1, 2)}, at(-2, 1)}),
			lps([]impl.V{at(-2, -1), {X: q(-1, 1), Y: q(-1, 2)}, {X: q(-1, 1), Y: q(1, 2)}, at(-2, 1)}, lp(0, -1, 2, -1, 0, 0), lp(0, 0, 2, 1, 0, 1)),
			lps([]impl.V{at(-2, -1), {X: q(-1, 1), Y: q(-1, 2)}, {X: q(-1, 1), Y: q(1, 2)}, at(-2, 1)},
				[]impl.V{at(-1, -1), at(2, -1), at(0, 0), {X: q(-1, 1), Y: q(-1, 2)}}, []impl.V{{X: q(-1, 1), Y: q(1, 2)}, at(0, 0), at(2, 1), at(-1, 1)})},
		{"opposite sides of an edge", region(lp(0, 0, 4, 0, 2, 2)), region(lp(1, 0, 2, -2, 3, 0)), nil, lps(lp(0, 0, 1, 0, 2, -2, 3, 0, 4, 0, 2, 2)), lps(lp(0, 0, 4, 0, 2, 2)),
			lps(lp(0, 0, 1, 0, 2, -2, 3, 0, 4, 0, 2, 2))},
	}
}

func TestOverlaysByHand(t *testing.T) {
	for _, c := range overlayCases(t) {
		for op, want := range map[int64][][]impl.V{impl.OpAnd: c.and, impl.OpOr: c.or, impl.OpLess: c.less, impl.OpXor: c.xor} {
			if got, ok := impl.Both(c.a, c.b, op); !ok || !sameLoops(got.Loops, want) {
				t.Error(c.name, op, got, ok, "not", want)
			}
		}
		if refused := checkBoth(t, c.a, c.b) + checkBoth(t, c.b, c.a); refused > 0 {
			t.Error(c.name, "is refused")
		}
		checkSums(t, c.a, c.b)
	}
	if impl.OpAnd != 1 || impl.OpOr != 2 || impl.OpLess != 3 || impl.OpXor != 4 {
		t.Error("the numbers of the operations have changed")
	}
}

// regions makes a region, and perhaps another one that has much in common with it.
func (s *shapes) regions() (impl.Region, impl.Region, bool) {
	one, other := s.loops(), s.loops()
	switch loop, k := one[0], s.next(); s.next() % 4 {
	case 0:
		other = append(slices.Clone(one), other[0])
	case 1:
		other = slices.Concat(one[:len(one)/2], other)
	case 2:
		// Along an edge of it, or from a corner of it.
		v := loop[k%uint64(len(loop))]
		other = append(other, []impl.V{v, s.place(), loop[0]}, []impl.V{{X: v.X, Y: loop[0].Y}, v, s.place()})
	}
	a, ok1 := impl.MakeRegion(one)
	b, ok2 := impl.MakeRegion(other)
	return a, b, ok1 && ok2
}

func TestOverlaysMany(t *testing.T) {
	t.Parallel()
	made, refused, inner := 0, 0, int64(0)
	for kind := range spotKinds {
		s := &shapes{spots{dice(7700 + kind), kind}}
		for range []int{60, 20, 8, 16, 8}[kind] {
			a, b, ok := s.regions()
			// Big numbers take their time.
			if !ok || countPlaces(a.Loops)+countPlaces(b.Loops) > 60 {
				continue
			}
			made++
			inner += impl.Within(a, b)
			if checkBoth(t, a, b) > 0 {
				refused++
			}
			checkSums(t, a, b)
			checkPlaces(t, s, a, b)
		}
	}
	if made < 50 || refused < 2 || inner < 5 {
		t.Error("too few of a kind", made, refused, inner)
	}
}

// checkPlaces asks of places whether they are inside as the operation says.
func checkPlaces(t *testing.T, s *shapes, a, b impl.Region) {
	t.Helper()
	for _, op := range ops {
		r, ok := impl.Both(a, b, op)
		if !ok {
			continue
		}
		for range 5 {
			v := s.place()
			inA, inB := impl.Where(a, v), impl.Where(b, v)
			if inA == impl.WhereOn || inB == impl.WhereOn {
				continue
			}
			want := int64(impl.WhereOut)
			if isInside(op, inA == impl.WhereIn, inB == impl.WhereIn) {
				want = impl.WhereIn
			}
			if got := impl.Where(r, v); got != want {
				t.Fatal(v, "is", got, "in", a, op, b)
			}
		}
	}
}

// A sum tells an operation's outline, or that one on the way was refused.
type sum struct {
	impl.Region
	fine bool
}

func (a sum) with(op int64, b sum) sum {
	r, ok := impl.Both(a.Region, b.Region, op)
	return sum{r, ok && a.fine && b.fine}
}

// lawsOf tells pairs that should be the same.
func lawsOf[T interface{ with(int64, T) T }](none, a, b, c T) map[string][2]T {
	const and, or, less, xor = impl.OpAnd, impl.OpOr, impl.OpLess, impl.OpXor
	return map[string][2]T{
		"and over or":      {a.with(and, b.with(or, c)), a.with(and, b).with(or, a.with(and, c))},
		"or over and":      {a.with(or, b.with(and, c)), a.with(or, b).with(and, a.with(or, c))},
		"and over xor":     {a.with(and, b.with(xor, c)), a.with(and, b).with(xor, a.with(and, c))},
		"less or":          {a.with(less, b.with(or, c)), a.with(less, b).with(less, c)},
		"less and":         {a.with(less, b.with(and, c)), a.with(less, b).with(or, a.with(less, c))},
		"three by or":      {a.with(or, b).with(or, c), a.with(or, b.with(or, c))},
		"three by and":     {a.with(and, b).with(and, c), a.with(and, b.with(and, c))},
		"three by xor":     {a.with(xor, b).with(xor, c), a.with(xor, b.with(xor, c))},
		"parts of a":       {a.with(less, b).with(or, a.with(and, b)), a},
		"xor twice":        {a.with(xor, b).with(xor, b), a},
		"xor by less":      {a.with(xor, b), a.with(less, b).with(or, b.with(less, a))},
		"and by less":      {a.with(and, b), a.with(less, a.with(less, b))},
		"or of and":        {a.with(or, a.with(and, b)), a},
		"and of or":        {a.with(and, a.with(or, b)), a},
		"less and and":     {a.with(less, b).with(and, b), none},
		"a with itself":    {a.with(or, a).with(and, a).with(less, a), none},
		"with the empty":   {a.with(or, none).with(less, none).with(xor, none), a},
		"and of the empty": {a.with(and, none), none},
	}
}

func TestLawsOfSets(t *testing.T) {
	t.Parallel()
	held := 0
	for kind := range 2 {
		s := &shapes{spots{dice(880 + kind), kind}}
		for range []int{40, 12}[kind] {
			one, two, ok := s.regions()
			three, fine := impl.MakeRegion(s.loops())
			if !ok || !fine {
				continue
			}
			a, b, c := sum{one, true}, sum{two, true}, sum{three, true}
			for name, law := range lawsOf(sum{impl.Region{}, true}, a, b, c) {
				if !law[0].fine || !law[1].fine {
					continue
				}
				held++
				if !sameLoops(law[0].Loops, law[1].Loops) {
					t.Fatal(name, a.Loops, b.Loops, c.Loops, "tell", law[0].Loops, "and", law[1].Loops)
				}
			}
			checkWithin(t, a, b)
		}
	}
	if held < 700 {
		t.Error("too few laws were tried", held)
	}
}

func checkWithin(t *testing.T, a, b sum) {
	t.Helper()
	and, or := a.with(impl.OpAnd, b), a.with(impl.OpOr, b)
	if impl.Within(a.Region, a.Region) != 1 || impl.Within(impl.Region{}, a.Region) != 1 || and.fine && impl.Within(and.Region, a.Region) != 1 || or.fine && impl.Within(b.Region, or.Region) != 1 {
		t.Fatal("within", a, b)
	}
	if and.fine && (impl.Within(a.Region, b.Region) == 1) != sameLoops(and.Loops, a.Loops) {
		t.Fatal(a, "within", b, "where both have", and)
	}
}

func TestWithinByHand(t *testing.T) {
	whole, empty := region(box(0, 0, 9, 9)), impl.Region{}
	ring := made(t, box(0, 0, 9, 9), box(3, 3, 6, 6))
	for _, c := range []struct {
		name string
		a, b impl.Region
		want int64
	}{
		{"itself", whole, whole, 1}, {"the empty one", empty, whole, 1}, {"the empty one in itself", empty, empty, 1}, {"in the empty one", whole, empty, 0},
		{"inside", region(box(1, 1, 2, 2)), whole, 1}, {"around", whole, region(box(1, 1, 2, 2)), 0},
		{"touching an edge from inside", region(box(0, 2, 3, 4)), whole, 1}, {"touching all edges", region(lp(0, 4, 4, 0, 9, 4, 4, 9)), whole, 1}, {"a corner on a corner", region(lp(0, 0, 3, 1, 1, 3)), whole, 1},
		{"touching an edge from outside", region(box(9, 2, 10, 4)), whole, 0}, {"apart", region(box(20, 2, 21, 4)), whole, 0}, {"a bit over the edge", region(box(8, 8, 10, 9)), whole, 0},
		{"the ring in its square", ring, whole, 1}, {"the square in its ring", whole, ring, 0}, {"in the hole", region(box(4, 4, 5, 5)), ring, 0}, {"just the hole", region(box(3, 3, 6, 6)), ring, 0},
		{"over the hole", region(box(2, 2, 7, 7)), ring, 0}, {"at the hole", region(box(3, 1, 6, 3)), ring, 1}, {"around a part of the hole", region(lp(1, 1, 5, 1, 5, 3, 3, 3, 3, 5, 1, 5)), ring, 1},
		{"two, one of them in it", region(box(1, 1, 2, 2), box(20, 0, 21, 1)), whole, 0}, {"two, both in it", region(box(1, 1, 2, 2), box(7, 7, 8, 8)), ring, 1},
		{"through an edge by a little", region([]impl.V{at(1, 1), {X: q(9*(top/10)+1, top/10), Y: q(2, 1)}, at(1, 3)}), whole, 0},
	} {
		if got := impl.Within(c.a, c.b); got != c.want {
			t.Error(c.name, got)
		}
		checkBoth(t, c.a, c.b)
	}
	// Places of the outline that are no V, or too many, do not matter here.
	if flat, low := flatAndLow(); impl.Within(flat, low) != 0 || impl.Within(low, flat) != 0 {
		t.Error("a crossing that is no V")
	}
	up, across := teeth(49), swappedRegion(t, teeth(49))
	if impl.Within(up, across) != 0 || impl.Within(across, up) != 0 || impl.Within(up, up) != 1 {
		t.Error("thousands of crossings")
	}
}

// flatAndLow cross at a place of which X is 1/2, but Y no Q.
func flatAndLow() (impl.Region, impl.Region) {
	return region(lp(0, 0, top-1, 1, 0, 1)), region([]impl.V{at(-1, -1), {X: q(1, 2), Y: q(-1, 1)}, {X: q(1, 2), Y: q(2, 1)}, at(-1, 2)})
}

// teeth has n long teeth, and 2 n + 2 places.
func teeth(n int64) impl.Region {
	var loop []impl.V
	for i := range n {
		loop = append(loop, at(4*i, 0), at(4*i+1, 1000))
	}
	r, _ := impl.MakeRegion(lps(append(loop, at(4*n, -1), at(-1, -1))))
	return r
}

// propsAndWalls touch at all of the 99 places of the props.
func propsAndWalls() (impl.Region, impl.Region) {
	var props impl.Region
	for i := range int64(33) {
		props.Loops = append(props.Loops, lp(4*i, 0, 4*i+2, 0, 4*i+1, 10))
	}
	return props, region(box(-10, -5, 300, 0), box(-10, 10, 300, 15))
}

func swappedRegion(t *testing.T, r impl.Region) impl.Region {
	t.Helper()
	m, ok := impl.Move(r, aff(0, 1, 1, 0, 0, 0))
	if !ok {
		t.Fatal(r, "can't be turned over")
	}
	return m
}

// upright is n boxes side by side.
func upright(n int64) impl.Region {
	var r impl.Region
	for i := range n {
		r.Loops = append(r.Loops, box(4*i+1, 0, 4*i+3, 100))
	}
	return r
}

func checkCount(t *testing.T, name string, a, b impl.Region, op int64, want int) {
	t.Helper()
	r, ok := impl.Both(a, b, op)
	if ok != (want <= 100) || ok && countPlaces(r.Loops) != want || !ok && r.Loops != nil {
		t.Error(name, op, "has", countPlaces(r.Loops), ok, "not", want)
	}
}

func TestMostEdgesOfOverlays(t *testing.T) {
	up := upright(5)
	across := swappedRegion(t, up)
	// 25 squares, and 100 places where edges cross.
	checkCount(t, "a grid", up, across, impl.OpAnd, 100)
	checkCount(t, "a grid", up, across, impl.OpOr, 140)
	checkCount(t, "a grid", up, across, impl.OpLess, 120)
	// The last one ends inside the last one across.
	bent := impl.Region{Loops: append(slices.Clone(up.Loops[:4]), lp(17, 0, 19, 0, 19, 18, 18, 19, 17, 18))}
	blunt := impl.Region{Loops: append(slices.Clone(up.Loops[:4]), lp(17, 0, 19, 0, 18, 18))}
	checkCount(t, "a grid with a roof", bent, across, impl.OpAnd, 101)
	checkCount(t, "a grid with a tip", blunt, across, impl.OpAnd, 99)
	checkCount(t, "a greater grid", upright(6), across, impl.OpAnd, 120)
	checkCount(t, "the greatest", upright(25), swappedRegion(t, upright(25)), impl.OpAnd, 2500)

	ninetySix := made(t, bars()...)
	checkCount(t, "none more", ninetySix, impl.Region{}, impl.OpOr, 96)
	for want, more := range map[int][]impl.V{99: lp(30, 0, 31, 0, 30, 1), 100: box(30, 0, 31, 1), 101: lp(30, 0, 31, 0, 32, 1, 31, 2, 30, 1)} {
		checkCount(t, "some more", ninetySix, region(more), impl.OpOr, want)
		checkCount(t, "some more", region(more), ninetySix, impl.OpXor, want)
		checkCount(t, "some more, taken off", region(more), ninetySix, impl.OpLess, want-96)
	}
	full, other := made(t, append(bars(), box(20, 0, 21, 1))...), region(lp(30, 0, 31, 0, 30, 1))
	for op, want := range map[int64]int{impl.OpAnd: 0, impl.OpOr: 103, impl.OpLess: 100, impl.OpXor: 103} {
		checkCount(t, "full and more", full, other, op, want)
	}
	checkCount(t, "full with itself", full, full, impl.OpOr, 100)
	// Touching places are not crossed, as many as there are.
	props, walls := propsAndWalls()
	comb, stops := swappedRegion(t, teeth(49)), region(lp(-5, 1, -1, 2, -5, 3), lp(-5, 11, -1, 12, -5, 13), box(1000, -10, 1010, 300))
	for _, pair := range [][2]impl.Region{{props, walls}, {comb, stops}} {
		checkCount(t, "touching", pair[0], pair[1], impl.OpAnd, 0)
		checkCount(t, "touching", pair[0], pair[1], impl.OpLess, countPlaces(pair[0].Loops))
		checkCount(t, "touching", pair[1], pair[0], impl.OpLess, countPlaces(pair[1].Loops))
	}
	for _, op := range ops {
		checkCount(t, "thousands of crossings", teeth(49), swappedRegion(t, teeth(49)), op, 9999)
	}
}

func TestOverlayPlacesThatAreNone(t *testing.T) {
	flat, low := flatAndLow()
	for _, op := range ops {
		for _, pair := range [][2]impl.Region{{flat, low}, {low, flat}, {swappedRegion(t, flat), swappedRegion(t, low)}} {
			if r, ok := impl.Both(pair[0], pair[1], op); ok || r.Loops != nil {
				t.Error(pair, op, "is", r)
			}
		}
	}
	// Here the lines of two edges cross at that place, but it is none of the outline.
	short := region([]impl.V{at(-1, -1), {X: q(1, 2), Y: q(-1, 1)}, {X: q(1, 2), Y: q(-1, 2)}})
	if refused := checkBoth(t, flat, short) + checkBoth(t, short, flat); refused > 0 {
		t.Error("lines that cross beyond the edges")
	}
	// A crossing of which the denominator is just MaxNum.
	exact := region(lp(0, 0, top, 1, 0, 1))
	if r, ok := impl.Both(exact, region(box(-1, -1, 1, 2)), impl.OpAnd); !ok || !sameLoops(r.Loops, lps([]impl.V{at(0, 0), {X: q(1, 1), Y: q(1, top)}, at(1, 1), at(0, 1)})) {
		t.Error("a crossing at MaxNum", r, ok)
	}
}

func TestAll(t *testing.T) {
	flat := region(lp(0, 0, 4, 1, 0, 1))
	for _, c := range []struct {
		name string
		list []impl.Region
		want [][]impl.V
	}{
		{"nothing", nil, nil},
		{"the empty one", []impl.Region{{}, {}}, nil},
		{"one", []impl.Region{flat}, flat.Loops},
		{"one, often", []impl.Region{flat, flat, {}, flat}, flat.Loops},
		{"a row, the middle last", []impl.Region{region(box(0, 0, 1, 1)), region(box(2, 0, 3, 1)), region(box(1, 0, 2, 1))}, lps(box(0, 0, 3, 1))},
		{"a ring of four", []impl.Region{region(box(0, 0, 3, 1)), region(box(2, 0, 3, 3)), region(box(0, 2, 3, 3)), region(box(0, 0, 1, 3))}, lps(box(0, 0, 3, 3), lp(1, 1, 1, 2, 2, 2, 2, 1))},
		{"a ring that is filled", []impl.Region{region(box(0, 0, 3, 3), lp(1, 1, 1, 2, 2, 2, 2, 1)), region(box(1, 1, 2, 2))}, lps(box(0, 0, 3, 3))},
	} {
		for range 2 {
			if r, ok := impl.All(c.list); !ok || !sameLoops(r.Loops, c.want) {
				t.Error(c.name, r, ok, "not", c.want)
			}
			slices.Reverse(c.list)
		}
	}
	var tiles []impl.Region
	for k := range int64(200) {
		tiles = append(tiles, region(box(k%20, k/20, k%20+1, k/20+1)))
	}
	if r, ok := impl.All(tiles); !ok || !sameLoops(r.Loops, lps(box(0, 0, 20, 10))) {
		t.Error("200 tiles", r, ok)
	}
	if r, ok := impl.All(make([]impl.Region, 200)); !ok || len(r.Loops) != 0 {
		t.Error("200 empty ones", r, ok)
	}
	for name, list := range map[string][]impl.Region{"201 tiles": append(tiles, tiles[0]), "201 empty ones": make([]impl.Region, 201)} {
		if r, ok := impl.All(list); ok || r.Loops != nil {
			t.Error(name, r)
		}
	}
}

// checkAll holds against Both, one by one.
func checkAll(t *testing.T, list []impl.Region) bool {
	t.Helper()
	want := sum{impl.Region{}, true}
	for _, o := range list {
		want = want.with(impl.OpOr, sum{o, true})
	}
	r, ok := impl.All(list)
	if ok != want.fine || ok && !sameLoops(r.Loops, want.Loops) || !ok && r.Loops != nil {
		t.Error(list, "are", r, ok, "not", want)
	}
	return ok
}

func TestAllInTurn(t *testing.T) {
	flat, low := flatAndLow()
	cover := region(lp(-2, -2, top, -2, top, 3, -2, 3))
	full, over := made(t, append(bars(), box(20, 0, 21, 1))...), region(box(-1, -1, 40, 40))
	for name, c := range map[string]struct {
		list []impl.Region
		fine bool
	}{
		"no V on the way":       {[]impl.Region{flat, low, cover}, false},
		"no V is covered ahead": {[]impl.Region{cover, flat, low}, true},
		"covered between":       {[]impl.Region{low, cover, flat}, true},
		"too many on the way":   {[]impl.Region{full, region(box(30, 0, 31, 1)), over}, false},
		"covered ahead":         {[]impl.Region{over, full, region(box(30, 0, 31, 1))}, true},
		"full":                  {[]impl.Region{full, full}, true},
	} {
		if checkAll(t, c.list) != c.fine {
			t.Error(name)
		}
	}
	s := &shapes{spots{dice(31), 0}}
	for range 25 {
		var list []impl.Region
		for range s.next() % 5 {
			o, _ := impl.MakeRegion(s.loops())
			list = append(list, o)
		}
		checkAll(t, list)
	}
}

func TestOverlaysRefused(t *testing.T) {
	clean := region(box(0, 0, 6, 6), lp(1, 1, 1, 5, 5, 5, 5, 1))
	for _, op := range []int64{0, 5, -1, 6, -4, math.MinInt64, math.MaxInt64, 1 << 32, 1<<32 + 1} {
		for _, b := range []impl.Region{clean, {}, region(box(20, 0, 21, 1))} {
			if r, ok := impl.Both(clean, b, op); ok || r.Loops != nil {
				t.Error("operation", op, r, ok)
			}
		}
	}
	for name, loops := range notOutlines() {
		checkNoOverlay(t, name, impl.Region{Loops: loops})
	}
	for _, r := range brokenRegions() {
		checkNoOverlay(t, r, r)
	}
	for _, bad := range brokenFractions() {
		for _, r := range []impl.Region{clean, {}} {
			checkNoClip(t, "a", r, bad, q(1, 1), q(1, 1))
			checkNoClip(t, "a alone", r, bad, q(0, 1), q(1, 1))
			checkNoClip(t, "b", r, q(1, 1), bad, q(1, 1))
			checkNoClip(t, "b alone", r, q(0, 1), bad, q(1, 1))
			checkNoClip(t, "c", r, q(1, 1), q(1, 1), bad)
		}
	}
	for _, r := range []impl.Region{clean, {}} {
		checkNoClip(t, "a and b are 0", r, q(0, 1), q(0, 1), q(1, 1))
		for _, s := range brokenSegs(seg(0, 0, 3, 1)) {
			if list, ok := impl.ClipSeg(r, s); ok || len(list) != 0 {
				t.Error("clipped", s, list)
			}
		}
	}
}

func checkNoClip(t *testing.T, name any, r impl.Region, a, b, c impl.Q) {
	t.Helper()
	if got, ok := impl.Clip(r, a, b, c); ok || got.Loops != nil {
		t.Error(name, a, b, c, "clip to", got)
	}
}

// checkNoOverlay asks that a region that is none is refused by each function, wherever it stands.
func checkNoOverlay(t *testing.T, name any, bad impl.Region) {
	t.Helper()
	for _, other := range []impl.Region{{}, region(box(0, 0, 3, 3)), bad} {
		for _, op := range ops {
			if r, ok := impl.Both(bad, other, op); ok || r.Loops != nil {
				t.Error(name, op, r)
			}
			if r, ok := impl.Both(other, bad, op); ok || r.Loops != nil {
				t.Error(name, op, r)
			}
		}
		if impl.Within(bad, other) != 2 || impl.Within(other, bad) != 2 {
			t.Error(name, "within")
		}
		for _, list := range [][]impl.Region{{bad}, {other, bad}, {bad, other}} {
			if r, ok := impl.All(list); ok || r.Loops != nil {
				t.Error(name, "all", r)
			}
		}
	}
	checkNoClip(t, name, bad, q(1, 1), q(1, 1), q(1, 1))
	if list, ok := impl.ClipSeg(bad, seg(0, 0, 3, 3)); ok || len(list) != 0 {
		t.Error(name, "has pieces", list)
	}
	if list, ok := impl.Strips(bad); ok || len(list) != 0 {
		t.Error(name, "has strips", list)
	}
}
