package tests

import (
	"math/big"
	"reflect"
	"slices"
	"sort"
	"testing"

	"loop.example/g00022/impl"
)

// Promise 3.

func at(x, y int64) impl.V { return impl.V{X: q(x, 1), Y: q(y, 1)} }

func seg(ax, ay, bx, by int64) impl.Seg { return impl.Seg{A: at(ax, ay), B: at(bx, by)} }

func turned(s impl.Seg) impl.Seg { return impl.Seg{A: s.B, B: s.A} }

// swapped has X and Y the other way round.
func swapped(v impl.V) impl.V { return impl.V{X: v.Y, Y: v.X} }

func swappedSeg(s impl.Seg) impl.Seg { return impl.Seg{A: swapped(s.A), B: swapped(s.B)} }

// point is a place told by big numbers, without limits.
type point struct{ x, y *big.Rat }

func pointOf(v impl.V) point { return point{rat(v.X), rat(v.Y)} }

func (p point) place() (impl.V, bool) {
	x, ok1 := asQ(p.x)
	y, ok2 := asQ(p.y)
	if !ok1 || !ok2 {
		return impl.V{}, false
	}
	return impl.V{X: x, Y: y}, true
}

func minusRat(a, b *big.Rat) *big.Rat { return new(big.Rat).Sub(a, b) }
func timesRat(a, b *big.Rat) *big.Rat { return new(big.Rat).Mul(a, b) }
func plusRat(a, b *big.Rat) *big.Rat  { return new(big.Rat).Add(a, b) }

func (p point) cmp(o point) int {
	if c := p.x.Cmp(o.x); c != 0 {
		return c
	}
	return p.y.Cmp(o.y)
}

// side is the sign of the document's words for Turn.
func side(a, b, c point) int {
	left := timesRat(minusRat(b.x, a.x), minusRat(c.y, a.y))
	return left.Cmp(timesRat(minusRat(b.y, a.y), minusRat(c.x, a.x)))
}

// slant is the product (dot) of b - a with d - c.
func slant(a, b, c, d point) *big.Rat {
	return plusRat(timesRat(minusRat(b.x, a.x), minusRat(d.x, c.x)), timesRat(minusRat(b.y, a.y), minusRat(d.y, c.y)))
}

func square(a, b point) *big.Rat { return slant(a, b, a, b) }

// isOn tells by lengths alone, unlike the program: p lies between a and b when the angle there is straight, or p is an end.
func isOn(p, a, b point) bool {
	if p.cmp(a) == 0 || p.cmp(b) == 0 {
		return true
	}
	return side(a, b, p) == 0 && slant(p, a, p, b).Sign() < 0
}

// crossing solves the equations of the two lines, each a x + b y = c, by determinants.
func crossing(a, b, c, d point) point {
	line := func(p, o point) [3]*big.Rat {
		u, v := minusRat(o.y, p.y), minusRat(p.x, o.x)
		return [3]*big.Rat{u, v, plusRat(timesRat(u, p.x), timesRat(v, p.y))}
	}
	m, n := line(a, b), line(c, d)
	det := func(i, j int) *big.Rat { return minusRat(timesRat(m[i], n[j]), timesRat(m[j], n[i])) }
	whole := det(0, 1)
	return point{new(big.Rat).Quo(det(2, 1), whole), new(big.Rat).Quo(det(0, 2), whole)}
}

// wantMeet goes by the sides on which the ends are, where neither is straight on; else by which ends lie on the other segment.
func wantMeet(s, t impl.Seg) (int64, impl.V, impl.V) {
	a, b, c, d := pointOf(s.A), pointOf(s.B), pointOf(t.A), pointOf(t.B)
	if side(a, b, c)*side(a, b, d) < 0 && side(c, d, a)*side(c, d, b) < 0 {
		if v, ok := crossing(a, b, c, d).place(); ok {
			return 1, v, v
		}
		return 3, impl.V{}, impl.V{}
	}
	var common []impl.V
	add := func(v impl.V, from, to point) {
		if isOn(pointOf(v), from, to) && !slices.Contains(common, v) {
			common = append(common, v)
		}
	}
	add(s.A, c, d)
	add(s.B, c, d)
	add(t.A, a, b)
	add(t.B, a, b)
	if len(common) == 0 {
		return 0, impl.V{}, impl.V{}
	}
	sort.Slice(common, func(i, j int) bool { return pointOf(common[i]).cmp(pointOf(common[j])) < 0 })
	return min(int64(len(common)), 2), common[0], common[len(common)-1]
}

func checkMeet(t *testing.T, one, two impl.Seg) int64 {
	t.Helper()
	kind, first, last := wantMeet(one, two)
	for _, s := range []impl.Seg{one, turned(one)} {
		for _, o := range []impl.Seg{two, turned(two)} {
			if k, a, b := impl.Meet(s, o); k != kind || a != first || b != last {
				t.Fatal(s, o, "meet", k, a, b, "not", kind, first, last)
			}
			if k, a, b := impl.Meet(o, s); k != kind || a != first || b != last {
				t.Fatal(o, s, "meet", k, a, b, "not", kind, first, last)
			}
		}
	}
	return kind
}

// spots gives places: on a small grid, on a grid of fractions, of great numbers, or of any fractions.
type spots struct {
	dice
	kind int
}

const spotKinds = 5

func (s *spots) coord() impl.Q {
	switch s.kind {
	case 0:
		return q(s.upTo(3), 1)
	case 1:
		f, _ := lowest(big.NewInt(s.upTo(9)), big.NewInt(1+int64(s.next()%4)))
		return f
	case 2:
		return q((int64(s.next()%2)*2-1)*(top-int64(s.next()%3)), 1)
	case 3:
		all := edgeFractions()
		return all[s.next()%uint64(len(all))]
	}
	return s.fraction()
}

func (s *spots) place() impl.V { return impl.V{X: s.coord(), Y: s.coord()} }

func (s *spots) seg() impl.Seg {
	for {
		if o := (impl.Seg{A: s.place(), B: s.place()}); o.A != o.B {
			return o
		}
	}
}

func TestMeetByHand(t *testing.T) {
	for _, c := range []struct {
		name string
		s, t impl.Seg
		kind int64
		a, b impl.V
	}{
		{"cross", seg(0, 0, 4, 4), seg(0, 4, 4, 0), 1, at(2, 2), at(2, 2)},
		{"cross at fractions", seg(0, 0, 3, 1), seg(0, 1, 3, 0), 1, impl.V{X: q(3, 2), Y: q(1, 2)}, impl.V{X: q(3, 2), Y: q(1, 2)}},
		{"touch within", seg(0, 0, 4, 0), seg(1, 0, 3, 7), 1, at(1, 0), at(1, 0)},
		{"touch at both's ends", seg(0, 0, 4, 0), seg(4, 0, 3, 7), 1, at(4, 0), at(4, 0)},
		{"end to end on a line", seg(0, 0, 2, 2), seg(2, 2, 5, 5), 1, at(2, 2), at(2, 2)},
		{"end to end upright", seg(1, 0, 1, 2), seg(1, 5, 1, 2), 1, at(1, 2), at(1, 2)},
		{"over in part", seg(0, 0, 4, 0), seg(2, 0, 6, 0), 2, at(2, 0), at(4, 0)},
		{"over upright", seg(1, 9, 1, -9), seg(1, 3, 1, 12), 2, at(1, 3), at(1, 9)},
		{"over falling", seg(0, 6, 6, 0), seg(9, -3, 2, 4), 2, at(2, 4), at(6, 0)},
		{"one within the other", seg(0, 0, 9, 9), seg(3, 3, 4, 4), 2, at(3, 3), at(4, 4)},
		{"one within, with an end", seg(0, 0, 9, 9), seg(3, 3, 0, 0), 2, at(0, 0), at(3, 3)},
		{"the same", seg(0, 0, 9, 3), seg(0, 0, 9, 3), 2, at(0, 0), at(9, 3)},
		{"side by side", seg(0, 0, 2, 0), seg(0, 1, 2, 1), 0, impl.V{}, impl.V{}},
		{"on a line, apart", seg(0, 0, 2, 2), seg(3, 3, 5, 5), 0, impl.V{}, impl.V{}},
		{"on an upright line, apart", seg(0, 0, 0, 2), seg(0, 3, 0, 5), 0, impl.V{}, impl.V{}},
		{"lines cross beyond one", seg(0, 0, 1, 1), seg(0, 4, 4, 0), 0, impl.V{}, impl.V{}},
		{"lines cross beyond both", seg(0, 0, 1, 0), seg(5, 1, 5, 2), 0, impl.V{}, impl.V{}},
		{"great", seg(-top, -top, top, top), seg(-top, top, top, -top), 1, at(0, 0), at(0, 0)},
		{"great, over", seg(-top, -top, top, top), seg(top-1, top-1, -top, -top), 2, at(-top, -top), at(top-1, top-1)},
		{"great, nearly touching", seg(-top, -top, top, top), seg(top-1, top, -top, top), 0, impl.V{}, impl.V{}},
		{"great, end to end", seg(-top, top, top, top-1), seg(top, top-1, -top, -top), 1, at(top, top-1), at(top, top-1)},
	} {
		if kind := checkMeet(t, c.s, c.t); kind != c.kind {
			t.Error(c.name, "is told as", kind)
		}
		if k, a, b := impl.Meet(c.s, c.t); k != c.kind || a != c.a || b != c.b {
			t.Error(c.name, k, a, b)
		}
	}
	if impl.MeetNone != 0 || impl.MeetPoint != 1 || impl.MeetOver != 2 || impl.MeetBad != 3 || impl.MaxList != 200 {
		t.Error("the numbers of what Meet tells, or MaxList, have changed")
	}
}

func TestMeetNoPlace(t *testing.T) {
	half := impl.Seg{A: impl.V{X: q(1, 2), Y: q(-1, 1)}, B: impl.V{X: q(1, 2), Y: q(1, 1)}}
	flat := seg(0, 0, top-1, 1)
	// X is 1/2 here, but Y is 1 by twice the great number less 2.
	for _, s := range [][2]impl.Seg{{half, flat}, {swappedSeg(half), swappedSeg(flat)}} {
		if checkMeet(t, s[0], s[1]) != 3 {
			t.Error(s, "meet at a place that is no V")
		}
	}
	// The lines cross at a place that is no V, but beyond the end of one: nothing is in common.
	below := impl.Seg{A: impl.V{X: q(1, 2), Y: q(-1, 1)}, B: impl.V{X: q(1, 2), Y: q(0, 1)}}
	if checkMeet(t, below, flat) != 0 || checkMeet(t, swappedSeg(below), swappedSeg(flat)) != 0 {
		t.Error("what is not in common is told as a place")
	}
	// The same with a place of which the denominator is just MaxNum, and one of which it is passed.
	upright := seg(1, -1, 1, 1)
	if k, v, _ := impl.Meet(seg(0, 0, top, 1), upright); k != impl.MeetPoint || v != (impl.V{X: q(1, 1), Y: q(1, top)}) {
		t.Error("a denominator that is MaxNum", k, v)
	}
	third := impl.Seg{A: impl.V{X: q(1, 3), Y: q(-1, 1)}, B: impl.V{X: q(1, 3), Y: q(1, 1)}}
	if k, a, b := impl.Meet(seg(0, 0, top, 1), third); k != impl.MeetBad || a != (impl.V{}) || b != a {
		t.Error("a denominator above MaxNum", k, a, b)
	}
}

func TestMeetMany(t *testing.T) {
	var seen [4]int
	for kind := range spotKinds {
		s := &spots{dice(31 + kind), kind}
		for range 1500 {
			seen[checkMeet(t, s.seg(), s.seg())]++
		}
	}
	if slices.Min(seen[:]) < 10 {
		t.Error("too few of a kind", seen)
	}
	// Segments on one line, given by their shares of it.
	s := &spots{dice(77), 1}
	for range 2000 {
		base, way := s.place(), s.seg()
		step := func() impl.V {
			k := q(s.upTo(4), 1)
			x, _ := impl.QMul(k, way.A.X)
			y, _ := impl.QMul(k, way.A.Y)
			x, _ = impl.QAdd(x, base.X)
			y, _ = impl.QAdd(y, base.Y)
			return impl.V{X: x, Y: y}
		}
		one, two := impl.Seg{A: step(), B: step()}, impl.Seg{A: step(), B: step()}
		if impl.SegOk(one) && impl.SegOk(two) {
			checkMeet(t, one, two)
		}
	}
}

func TestOrderAndTurn(t *testing.T) {
	for kind := range spotKinds {
		s := &spots{dice(5 + kind), kind}
		for range 2000 {
			a, b, c := s.place(), s.place(), s.place()
			if got := impl.CmpV(a, b); got != int64(pointOf(a).cmp(pointOf(b))) || impl.CmpV(b, a) != -got || impl.CmpV(a, a) != 0 {
				t.Fatal("order", a, b, got)
			}
			got := impl.Turn(a, b, c)
			if got != int64(side(pointOf(a), pointOf(b), pointOf(c))) || impl.Turn(b, c, a) != got || impl.Turn(b, a, c) != -got {
				t.Fatal("turn", a, b, c, got)
			}
			if impl.Turn(a, b, a) != 0 || impl.Turn(a, a, b) != 0 || impl.Turn(a, b, b) != 0 {
				t.Fatal("back", a, b)
			}
		}
	}
	if impl.CmpV(at(1, 9), at(2, 0)) != -1 || impl.CmpV(at(2, 0), at(2, 1)) != -1 || impl.CmpV(at(2, 1), at(2, 0)) != 1 {
		t.Error("X goes first, then Y")
	}
	if impl.CmpV(impl.V{X: q(top-1, top), Y: q(5, 1)}, impl.V{X: q(top-2, top-1), Y: q(4, 1)}) != 1 {
		t.Error("two that are nearly alike")
	}
	if impl.Turn(at(-top, -top), at(top, top), at(top, top-1)) != -1 || impl.Turn(at(-top, -top), at(top-1, top), at(0, 1)) != 1 {
		t.Error("a slight turn of great numbers")
	}
	if impl.Turn(at(0, 0), at(1, 1), at(2, 2)) != 0 || impl.Turn(at(0, 0), at(1, 1), at(-2, -2)) != 0 {
		t.Error("straight on and back")
	}
}

func TestOnSegment(t *testing.T) {
	for kind := range spotKinds {
		s := &spots{dice(50 + kind), kind}
		for range 2000 {
			v, o := s.place(), s.seg()
			want := isOn(pointOf(v), pointOf(o.A), pointOf(o.B))
			if impl.OnSeg(v, o) != want || impl.OnSeg(v, turned(o)) != want {
				t.Fatal(v, o, "should be", want)
			}
			if !impl.OnSeg(o.A, o) || !impl.OnSeg(o.B, o) {
				t.Fatal("an end of", o)
			}
		}
	}
	long := seg(-top, -top, top, top)
	for _, c := range []struct {
		v    impl.V
		s    impl.Seg
		want bool
	}{
		{at(2, 2), seg(0, 0, 3, 3), true}, {at(4, 4), seg(0, 0, 3, 3), false}, {at(-1, -1), seg(0, 0, 3, 3), false}, {at(1, 2), seg(0, 0, 3, 3), false},
		{at(5, 2), seg(5, 0, 5, 3), true}, {at(5, 4), seg(5, 0, 5, 3), false}, {at(5, -1), seg(5, 0, 5, 3), false}, {at(4, 1), seg(5, 0, 5, 3), false},
		{at(1, 2), seg(0, 3, 3, 0), true}, {at(4, -1), seg(0, 3, 3, 0), false}, {at(1, 0), seg(0, 0, 3, 0), true},
		{at(0, 0), long, true}, {at(top-1, top-1), long, true}, {at(0, 1), long, false}, {impl.V{X: q(1, top), Y: q(1, top-1)}, long, false},
		{impl.V{X: q(1, top), Y: q(1, top)}, long, true},
	} {
		if impl.OnSeg(c.v, c.s) != c.want || impl.OnSeg(c.v, turned(c.s)) != c.want || impl.OnSeg(swapped(c.v), swappedSeg(c.s)) != c.want {
			t.Error(c.v, c.s)
		}
	}
}

// wantFoot is the crossing of the line with the one that stands upright on it through v.
func wantFoot(v impl.V, s impl.Seg) point {
	p, a, b := pointOf(v), pointOf(s.A), pointOf(s.B)
	beside := point{minusRat(p.x, minusRat(b.y, a.y)), plusRat(p.y, minusRat(b.x, a.x))}
	return crossing(a, b, p, beside)
}

// wantNear takes, of the ends and the foot where it lies between them, the one that is nearest.
func wantNear(v impl.V, s impl.Seg) point {
	p, a, b := pointOf(v), pointOf(s.A), pointOf(s.B)
	best := a
	if square(p, b).Cmp(square(p, a)) < 0 {
		best = b
	}
	if f := wantFoot(v, s); isOn(f, a, b) && square(p, f).Cmp(square(p, best)) < 0 {
		best = f
	}
	return best
}

func checkNear(t *testing.T, v impl.V, s impl.Seg) {
	t.Helper()
	for _, o := range []impl.Seg{s, turned(s)} {
		want, ok := wantFoot(v, s).place()
		if f, got := impl.Foot(v, o); got != ok || f != want {
			t.Fatal("foot", v, o, f, got, "not", want, ok)
		}
		want, ok = wantNear(v, s).place()
		if n, got := impl.Near(v, o); got != ok || n != want {
			t.Fatal("near", v, o, n, got, "not", want, ok)
		}
		far, ok := asQ(square(pointOf(v), wantNear(v, s)))
		if d, got := impl.Dist2(v, o); got != ok || d != far {
			t.Fatal("distance", v, o, d, got, "not", far, ok)
		}
	}
}

// checkNearest asks, by the definition, that no place of the line, or of the segment, is nearer.
func checkNearest(t *testing.T, v impl.V, s impl.Seg) {
	t.Helper()
	p, a, b := pointOf(v), pointOf(s.A), pointOf(s.B)
	foot, ok1 := impl.Foot(v, s)
	near, ok2 := impl.Near(v, s)
	if ok1 && side(a, b, pointOf(foot)) != 0 || ok2 && !impl.OnSeg(near, s) {
		t.Fatal(v, s, "have", foot, near, "which are not on it")
	}
	for k := int64(-8); k <= 16; k++ {
		share := big.NewRat(k, 8)
		other := point{plusRat(a.x, timesRat(share, minusRat(b.x, a.x))), plusRat(a.y, timesRat(share, minusRat(b.y, a.y)))}
		if ok1 && square(p, other).Cmp(square(p, pointOf(foot))) < 0 {
			t.Fatal(v, s, "foot", foot, "is farther than", other)
		}
		if ok2 && k >= 0 && k <= 8 && square(p, other).Cmp(square(p, pointOf(near))) < 0 {
			t.Fatal(v, s, "near", near, "is farther than", other)
		}
	}
}

func TestFeetMany(t *testing.T) {
	for kind := range spotKinds {
		s := &spots{dice(400 + kind), kind}
		for range 500 {
			v, o := s.place(), s.seg()
			checkNear(t, v, o)
			checkNearest(t, v, o)
		}
	}
}

func TestFeetByHand(t *testing.T) {
	half := impl.V{X: q(1, 2), Y: q(1, 2)}
	for _, c := range []struct {
		v          impl.V
		s          impl.Seg
		foot, near impl.V
		dist       impl.Q
	}{
		{at(0, 5), seg(1, 0, 3, 0), at(0, 0), at(1, 0), q(26, 1)},
		{at(9, 5), seg(1, 0, 3, 0), at(9, 0), at(3, 0), q(61, 1)},
		{at(2, 5), seg(1, 0, 3, 0), at(2, 0), at(2, 0), q(25, 1)},
		{at(1, 5), seg(1, 0, 3, 0), at(1, 0), at(1, 0), q(25, 1)},
		{at(2, 0), seg(1, 0, 3, 0), at(2, 0), at(2, 0), q(0, 1)},
		{at(5, 0), seg(1, 0, 3, 0), at(5, 0), at(3, 0), q(4, 1)},
		{at(1, 0), seg(0, 0, 2, 2), half, half, q(1, 2)},
		{at(7, 5), seg(0, 0, 0, 9), at(0, 5), at(0, 5), q(49, 1)},
		{at(top, -top), seg(-top, -top, top, top), at(0, 0), at(0, 0), impl.Q{}},
		{at(0, 1000000000), seg(-top, 0, top, 0), at(0, 0), at(0, 0), q(top, 1)},
		{at(0, 1000000001), seg(-top, 0, top, 0), at(0, 0), at(0, 0), impl.Q{}},
		{at(top, top), seg(-top, 1, top, 1), at(top, 1), at(top, 1), impl.Q{}},
	} {
		checkNear(t, c.v, c.s)
		if f, ok := impl.Foot(c.v, c.s); !ok || f != c.foot {
			t.Error("foot", c.v, c.s, f, ok)
		}
		if n, ok := impl.Near(c.v, c.s); !ok || n != c.near {
			t.Error("near", c.v, c.s, n, ok)
		}
		if d, ok := impl.Dist2(c.v, c.s); ok != (c.dist.Den != 0) || d != c.dist {
			t.Error("distance", c.v, c.s, d, ok)
		}
	}
}

func TestFootNoPlace(t *testing.T) {
	// The foot is (1/3, 1) by 10^18: X alone is no Q, then, swapped, Y alone.
	v, s := impl.V{X: q(0, 1), Y: q(1, 9*(top/10))}, seg(0, 0, 1, 3)
	for _, c := range []struct {
		v impl.V
		s impl.Seg
	}{{v, s}, {swapped(v), swappedSeg(s)}} {
		checkNear(t, c.v, c.s)
		if f, ok := impl.Foot(c.v, c.s); ok || f != (impl.V{}) {
			t.Error("foot", f, ok)
		}
		if n, ok := impl.Near(c.v, c.s); ok || n != (impl.V{}) {
			t.Error("near", n, ok)
		}
	}
	// A foot beyond the end that is no V leaves the nearest place, an end, as it is.
	away := seg(1, 3, 2, 6)
	if _, ok := impl.Foot(v, away); ok {
		t.Error("the line is the same, and so is the foot")
	}
	if n, ok := impl.Near(v, away); !ok || n != at(1, 3) {
		t.Error("near", n, ok)
	}
	checkNear(t, v, away)
	// Beyond MaxNum by its size.
	if f, ok := impl.Foot(at(top, top), seg(0, 0, 2, 1)); ok || f != (impl.V{}) {
		t.Error("too far a foot", f, ok)
	}
	checkNear(t, at(top, top), seg(0, 0, 2, 1))
}

// A segment whose length is a whole number above MaxNum: its places at a whole distance from (0, 0) have this number below them.
func TestDistanceWithoutPlace(t *testing.T) {
	const m, n = 950000001, 400000000
	a, b, length := big.NewInt(m*m-n*n), big.NewInt(2*m*n), big.NewInt(m*m+n*n)
	along := new(big.Int).ModInverse(a, length)
	along.Mul(along, b).Mod(along, length)
	// v is this far along, and 1 to the left.
	x := new(big.Int).Sub(new(big.Int).Mul(along, a), b)
	y := new(big.Int).Add(new(big.Int).Mul(along, b), a)
	v := at(x.Quo(x, length).Int64(), y.Quo(y, length).Int64())
	s := seg(0, 0, a.Int64(), b.Int64())
	checkNear(t, v, s)
	if n, ok := impl.Near(v, s); ok {
		t.Error("near", n)
	}
	if d, ok := impl.Dist2(v, s); !ok || d != q(1, 1) {
		t.Error("distance", d, ok)
	}
}

func wantAlong(d impl.V, list []impl.V) []int64 {
	heights := make([]*big.Rat, len(list))
	for i, v := range list {
		heights[i] = plusRat(timesRat(rat(d.X), rat(v.X)), timesRat(rat(d.Y), rat(v.Y)))
	}
	// Each goes behind all that are lower, or as high and ahead of it in list.
	out := make([]int64, len(list))
	for i := range list {
		behind := 0
		for j := range list {
			if c := heights[j].Cmp(heights[i]); c < 0 || c == 0 && j < i {
				behind++
			}
		}
		out[behind] = int64(i)
	}
	return out
}

func TestSortAlong(t *testing.T) {
	for kind := range spotKinds {
		s := &spots{dice(900 + kind), kind}
		for i := range 60 {
			d := s.place()
			var list []impl.V
			for range i % 30 {
				list = append(list, s.place())
			}
			want := wantAlong(d, list)
			got, ok := impl.SortAlong(d, list)
			if d == at(0, 0) {
				want = nil
			}
			if ok != (d != at(0, 0)) || !slices.Equal(got, want) {
				t.Fatal(d, list, got, ok, "not", want)
			}
		}
	}
	list := []impl.V{at(0, 3), at(5, 1), at(2, 3), at(1, -1), at(-7, 3)}
	for _, c := range []struct {
		d    impl.V
		want []int64
	}{
		{at(0, 1), []int64{3, 1, 0, 2, 4}}, {at(0, -1), []int64{0, 2, 4, 1, 3}}, {at(1, 0), []int64{4, 0, 3, 2, 1}},
		{at(-1, 0), []int64{1, 2, 3, 0, 4}}, {impl.V{X: q(1, top), Y: q(0, 1)}, []int64{4, 0, 3, 2, 1}}, {at(top, top), []int64{4, 3, 0, 2, 1}},
	} {
		if got, ok := impl.SortAlong(c.d, list); !ok || !slices.Equal(got, c.want) {
			t.Error(c.d, got, ok)
		}
	}
	// Heights of some 10^36 that differ by 1, and such as fractions tell apart behind 10^36.
	near := []impl.V{at(top, top), at(top, top-1), at(top-1, top), at(top-1, top-1)}
	if got, ok := impl.SortAlong(at(top, top-1), near); !ok || !slices.Equal(got, []int64{3, 2, 1, 0}) {
		t.Error("great heights", got, ok)
	}
	fine := []impl.V{{X: q(top-1, top), Y: q(0, 1)}, {X: q(top-2, top-1), Y: q(0, 1)}}
	if got, ok := impl.SortAlong(at(1, 0), fine); !ok || !slices.Equal(got, []int64{1, 0}) {
		t.Error("fine heights", got, ok)
	}
}

func TestSortAlongLimits(t *testing.T) {
	long := make([]impl.V, impl.MaxList+1)
	for i := range long {
		long[i] = at(int64(i%7), int64(i%5))
	}
	for _, d := range []impl.V{at(1, 0), at(0, -1), at(1, 1)} {
		if got, ok := impl.SortAlong(d, long[:impl.MaxList]); !ok || !slices.Equal(got, wantAlong(d, long[:impl.MaxList])) {
			t.Error("MaxList places", got, ok)
		}
	}
	if got, ok := impl.SortAlong(at(1, 0), long); ok || len(got) != 0 {
		t.Error("one above MaxList", got, ok)
	}
	if got, ok := impl.SortAlong(at(1, 0), nil); !ok || len(got) != 0 {
		t.Error("none", got, ok)
	}
	for _, list := range [][]impl.V{nil, {at(1, 1), at(0, 0)}} {
		if got, ok := impl.SortAlong(at(0, 0), list); ok || len(got) != 0 {
			t.Error("no direction", got, ok)
		}
	}
}

// brokenPlaces have one fraction that is not QOk, in each field.
func brokenPlaces() []impl.V {
	var list []impl.V
	for _, f := range brokenFractions() {
		list = append(list, impl.V{X: f, Y: q(1, 1)}, impl.V{X: q(1, 1), Y: f}, impl.V{X: f, Y: f})
	}
	return list
}

func TestWrongPlaces(t *testing.T) {
	a, b, c, s := at(1, 2), at(3, 4), at(5, 0), seg(0, 0, 6, 2)
	if !impl.VOk(a) || !impl.VOk(impl.V{X: q(top, top-1), Y: q(-1, top)}) || !impl.SegOk(s) {
		t.Error("what is ok is told to be wrong")
	}
	for _, v := range brokenPlaces() {
		if impl.VOk(v) {
			t.Error(v, "is told to be ok")
		}
		if impl.CmpV(v, a) != 2 || impl.CmpV(a, v) != 2 || impl.CmpV(v, v) != 2 {
			t.Error("order of", v)
		}
		if impl.Turn(v, a, b) != 2 || impl.Turn(a, v, b) != 2 || impl.Turn(a, b, v) != 2 || impl.Turn(v, v, v) != 2 {
			t.Error("turn of", v)
		}
		if impl.OnSeg(v, s) {
			t.Error(v, "is told to be on", s)
		}
		checkRefused(t, v, s)
		for _, list := range [][]impl.V{{v}, {a, b, v}, {v, a, b}, {a, v, c}} {
			if got, ok := impl.SortAlong(a, list); ok || len(got) != 0 {
				t.Error("sorted", list, got)
			}
		}
		if got, ok := impl.SortAlong(v, []impl.V{a, b}); ok || len(got) != 0 {
			t.Error("sorted along", v, got)
		}
		if got, ok := impl.SortAlong(v, nil); ok || len(got) != 0 {
			t.Error("none sorted along", v, got)
		}
		checkNoSegment(t, impl.Seg{A: v, B: a})
		checkNoSegment(t, impl.Seg{A: a, B: v})
		checkNoSegment(t, impl.Seg{A: v, B: v})
	}
	checkNoSegment(t, impl.Seg{A: a, B: a})
	checkNoSegment(t, impl.Seg{A: at(0, 0), B: at(0, 0)})
	checkNoSegment(t, impl.Seg{})
}

func checkRefused(t *testing.T, v impl.V, s impl.Seg) {
	t.Helper()
	if f, ok := impl.Foot(v, s); ok || f != (impl.V{}) {
		t.Error("foot", v, s, f, ok)
	}
	if n, ok := impl.Near(v, s); ok || n != (impl.V{}) {
		t.Error("near", v, s, n, ok)
	}
	if d, ok := impl.Dist2(v, s); ok || d != (impl.Q{}) {
		t.Error("distance", v, s, d, ok)
	}
}

func checkNoSegment(t *testing.T, s impl.Seg) {
	t.Helper()
	if impl.SegOk(s) {
		t.Error(s, "is told to be ok")
	}
	for _, v := range []impl.V{at(0, 0), at(1, 2), s.A, s.B} {
		if impl.OnSeg(v, s) {
			t.Error(v, "is told to be on", s)
		}
		checkRefused(t, v, s)
	}
	for _, o := range []impl.Seg{seg(0, 0, 6, 2), seg(0, 0, 1, 2), s} {
		if k, a, b := impl.Meet(s, o); k != 3 || a != (impl.V{}) || b != a {
			t.Error(s, o, "meet", k, a, b)
		}
		if k, a, b := impl.Meet(o, s); k != 3 || a != (impl.V{}) || b != a {
			t.Error(o, s, "meet", k, a, b)
		}
	}
}

// Promise 23: neither the list nor the room behind it is written into, and the answer is new.
func TestListLeftAsItWas(t *testing.T) {
	s := &spots{dice(12), 0}
	room := make([]impl.V, 40)
	for i := range room {
		room[i] = s.place()
	}
	before := slices.Clone(room)
	for n := range len(room) {
		first, _ := impl.SortAlong(at(2, -1), room[:n])
		kept := slices.Clone(first)
		for i := range first {
			first[i] = -1
		}
		if again, ok := impl.SortAlong(at(2, -1), room[:n]); !ok || !reflect.DeepEqual(again, kept) {
			t.Fatal("the answer hangs on what was done to the one before", again, kept)
		}
	}
	if !slices.Equal(room, before) {
		t.Error("the list is now", room)
	}
}
