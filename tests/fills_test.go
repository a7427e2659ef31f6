package tests

import (
	"math/big"
	"slices"
	"strings"
	"testing"

	"loop.example/g00022/impl"
)

// Promise 15: fills.

func floorOf(r *big.Rat) *big.Int { return new(big.Int).Div(r.Num(), r.Denom()) }

// wantFill tries each line from the lowest place of all to the highest. There should not be very many.
func wantFill(r impl.Region, step impl.Q) ([]impl.Seg, bool) {
	loops := pointLoops(r.Loops)
	all, edges := slices.Concat(loops...), edgesOf(loops)
	if len(all) == 0 {
		return nil, true
	}
	byY := func(p, o point) int { return p.y.Cmp(o.y) }
	low, high := slices.MinFunc(all, byY), slices.MaxFunc(all, byY)
	left, right := minusRat(slices.MinFunc(all, point.cmp).x, big.NewRat(1, 1)), plusRat(slices.MaxFunc(all, point.cmp).x, big.NewRat(1, 1))
	k, last := floorOf(new(big.Rat).Quo(low.y, rat(step))), floorOf(new(big.Rat).Quo(high.y, rat(step)))
	var parts []pointEdge
	lines := 0
	for ; k.Cmp(last) <= 0; k = new(big.Int).Add(k, big.NewInt(1)) {
		y := timesRat(new(big.Rat).SetInt(k), rat(step))
		a, b := point{left, y}, point{right, y}
		if k.Bit(0) == 1 {
			a, b = b, a
		}
		isMet := func(e pointEdge) bool { return len(metAlong(a, b, e)) > 0 }
		if slices.ContainsFunc(edges, isMet) {
			lines++
		}
		parts = append(parts, partsIn(edges, a, b)...)
	}
	if lines > 400 || len(parts) > 400 {
		return nil, false
	}
	return toldSegs(parts)
}

func checkFill(t *testing.T, name any, r impl.Region, step impl.Q) ([]impl.Seg, bool) {
	t.Helper()
	if !impl.RegionOk(r) {
		t.Fatal(name, r, "is no outline")
	}
	want, fine := wantFill(r, step)
	got, ok := impl.Fill(r, step)
	if ok != fine || !slices.Equal(got, want) {
		t.Fatal(name, r, "by", step, "is", got, ok, "not", want, fine)
	}
	for i, s := range got {
		// It lies in r.
		if in, ok := impl.ClipSeg(r, s); !ok || !slices.Equal(in, segs(s)) {
			t.Fatal(name, "move", i, s, "is not in", r)
		}
	}
	return got, ok
}

func TestFillsByHand(t *testing.T) {
	ring := made(t, box(0, 0, 6, 6), box(2, 2, 4, 4))
	bow := region(lp(0, 0, 2, 2, 0, 4), lp(2, 2, 4, 0, 4, 4))
	comb := region(lp(0, 0, 6, 0, 6, 4, 5, 2, 4, 4, 3, 2, 2, 4))
	frac := func(a, b, c, d impl.Q) impl.Seg { return impl.Seg{A: impl.V{X: a, Y: b}, B: impl.V{X: c, Y: d}} }
	one := q(1, 1)
	for _, c := range []struct {
		name string
		r    impl.Region
		step impl.Q
		want []impl.Seg
	}{
		{"nothing", impl.Region{}, one, nil},
		{"a box", region(box(0, 0, 3, 2)), one, segs(seg(0, 0, 3, 0), seg(3, 1, 0, 1), seg(0, 2, 3, 2))},
		{"a box on both sides of 0", region(box(-2, -3, 2, 2)), one, segs(seg(2, -3, -2, -3), seg(-2, -2, 2, -2), seg(2, -1, -2, -1), seg(-2, 0, 2, 0), seg(2, 1, -2, 1), seg(-2, 2, 2, 2))},
		{"along the lower edge alone", region(box(0, 2, 3, 3)), q(2, 1), segs(seg(3, 2, 0, 2))},
		{"along the upper edge alone", region(box(0, 1, 3, 2)), q(2, 1), segs(seg(3, 2, 0, 2))},
		{"below 0, even and odd", region(box(0, -4, 1, -2)), one, segs(seg(0, -4, 1, -4), seg(1, -3, 0, -3), seg(0, -2, 1, -2))},
		{"no line in it", region(halfLoop(0, 1, 4, 1, 4, 3, 0, 3)), q(2, 1), nil},
		{"a line through 0 alone", region(box(-1, -1, 1, 1)), q(top, 1), segs(seg(-1, 0, 1, 0))},
		{"a step past all", region(box(0, 1, 1, 2)), q(3, 1), nil},
		{"a triangle, along its edge and at its corner", region(lp(0, 0, 4, 0, 2, 2)), one, segs(seg(0, 0, 4, 0), seg(3, 1, 1, 1))},
		{"a triangle on its corner", region(lp(0, 2, 2, 0, 4, 2)), one, segs(seg(3, 1, 1, 1), seg(0, 2, 4, 2))},
		{"a triangle on its side", region(lp(0, 0, 4, 2, 0, 4)), q(2, 1), segs(seg(4, 2, 0, 2))},
		{"corners alone", region(lp(0, 0, 1, -1, 2, 0, 1, 1)), q(2, 1), segs(seg(0, 0, 2, 0))},
		{"corners alone, none within", region(lp(0, 1, 1, 0, 2, 1, 1, 2)), q(2, 1), nil},
		{"a ring", ring, one, segs(seg(0, 0, 6, 0), seg(6, 1, 0, 1), seg(0, 2, 6, 2), seg(6, 3, 4, 3), seg(2, 3, 0, 3), seg(0, 4, 6, 4), seg(6, 5, 0, 5), seg(0, 6, 6, 6))},
		{"a ring, through its hole by an even one", ring, q(3, 2), segs(seg(0, 0, 6, 0), frac(q(6, 1), q(3, 2), q(0, 1), q(3, 2)), seg(0, 3, 2, 3), seg(4, 3, 6, 3), frac(q(6, 1), q(9, 2), q(0, 1), q(9, 2)), seg(0, 6, 6, 6))},
		{"touching itself", bow, one, segs(seg(4, 1, 3, 1), seg(1, 1, 0, 1), seg(0, 2, 4, 2), seg(4, 3, 3, 3), seg(1, 3, 0, 3))},
		{"teeth", comb, one, []impl.Seg{seg(0, 0, 6, 0), frac(q(6, 1), one, q(1, 2), one), seg(1, 2, 6, 2),
			frac(q(6, 1), q(3, 1), q(11, 2), q(3, 1)), frac(q(9, 2), q(3, 1), q(7, 2), q(3, 1)), frac(q(5, 2), q(3, 1), q(3, 2), q(3, 1))}},
		{"two side by side", region(box(0, 0, 1, 1), box(3, 0, 4, 1)), one, segs(seg(0, 0, 1, 0), seg(3, 0, 4, 0), seg(4, 1, 3, 1), seg(1, 1, 0, 1))},
		{"one above the other", region(box(0, 0, 1, 1), box(0, 5, 1, 6)), one, segs(seg(0, 0, 1, 0), seg(1, 1, 0, 1), seg(1, 5, 0, 5), seg(0, 6, 1, 6))},
		{"one above the other, a lower one told later", region(box(0, 5, 1, 6), box(3, 0, 4, 1)), one, segs(seg(3, 0, 4, 0), seg(4, 1, 3, 1), seg(1, 5, 0, 5), seg(0, 6, 1, 6))},
		{"heights that overlap", region(box(0, 2, 1, 5), box(3, 0, 4, 3)), one, segs(seg(3, 0, 4, 0), seg(4, 1, 3, 1), seg(0, 2, 1, 2), seg(3, 2, 4, 2), seg(4, 3, 3, 3), seg(1, 3, 0, 3), seg(0, 4, 1, 4), seg(1, 5, 0, 5))},
		{"far apart", region(box(0, 0, 1, 1), box(0, top-1, 1, top)), one, segs(seg(0, 0, 1, 0), seg(1, 1, 0, 1), seg(1, top-1, 0, top-1), seg(0, top, 1, top))},
		{"far apart, on both sides of 0", region(box(0, -top, 1, 1-top), box(0, top-1, 1, top)), one, segs(seg(0, -top, 1, -top), seg(1, 1-top, 0, 1-top), seg(1, top-1, 0, top-1), seg(0, top, 1, top))},
		{"touching at a corner", region(box(0, 0, 2, 2), box(2, 2, 4, 4)), q(2, 1), segs(seg(0, 0, 2, 0), seg(4, 2, 0, 2), seg(2, 4, 4, 4))},
		{"a fraction for a step", region(box(0, 0, 1, 2)), q(2, 3), segs(seg(0, 0, 1, 0), frac(q(1, 1), q(2, 3), q(0, 1), q(2, 3)), frac(q(0, 1), q(4, 3), q(1, 1), q(4, 3)), seg(1, 2, 0, 2))},
		{"small numbers", region([]impl.V{at(0, 0), {X: q(1, top), Y: q(0, 1)}, {X: q(1, top), Y: q(1, top)}, {X: q(0, 1), Y: q(1, top)}}), q(1, top),
			segs(frac(q(0, 1), q(0, 1), q(1, top), q(0, 1)), frac(q(1, top), q(1, top), q(0, 1), q(1, top)))},
		{"great numbers", region(box(-top, -top, top, top)), q(top, 1), segs(seg(top, -top, -top, -top), seg(-top, 0, top, 0), seg(top, top, -top, top))},
	} {
		if got, ok := impl.Fill(c.r, c.step); !ok || !slices.Equal(got, c.want) {
			t.Error(c.name, got, ok, "not", c.want)
		}
		// The other way goes through all lines between.
		if !strings.HasPrefix(c.name, "far apart") {
			checkFill(t, c.name, c.r, c.step)
		}
	}
}

func TestFillsMany(t *testing.T) {
	t.Parallel()
	good, bad, empty := 0, 0, 0
	for kind := range spotKinds {
		s := &shapes{spots{dice(1500 + kind), kind}}
		for range []int{120, 60, 60, 80, 80}[kind] {
			r, ok := impl.MakeRegion(s.loops())
			if !ok || countPlaces(r.Loops) > 40 || len(r.Loops) == 0 {
				continue
			}
			// A step that is not above the height by much, nor far below it.
			all := slices.Concat(pointLoops(r.Loops)...)
			byY := func(p, o point) int { return p.y.Cmp(o.y) }
			high := minusRat(slices.MaxFunc(all, byY).y, slices.MinFunc(all, byY).y)
			step, fine := asQ(timesRat(high, big.NewRat(1+int64(s.next()%7), 1+int64(s.next()%9))))
			if kind < 2 {
				step, fine = q(1+int64(s.next()%6), 1+int64(s.next()%6)), true
			}
			if !fine || !impl.QOk(step) {
				continue
			}
			switch list, ok := checkFill(t, kind, r, step); {
			case !ok:
				bad++
			case len(list) == 0:
				empty++
			default:
				good++
			}
		}
	}
	if good < 80 || bad < 10 || empty < 3 {
		t.Error("too few of a kind:", good, bad, empty)
	}
}

// columns are boxes side by side, of so many lines each.
func columns(lines ...int64) impl.Region {
	var r impl.Region
	for i, n := range lines {
		r.Loops = append(r.Loops, box(3*int64(i), 0, 3*int64(i)+1, n-1))
	}
	return r
}

func TestFillsMost(t *testing.T) {
	fifteen := slices.Repeat([]int64{16}, 24)
	diamond := func(n int64) impl.Region { return region(lp(0, n, n, 0, 2*n, n, n, 2*n)) }
	for _, c := range []struct {
		name string
		r    impl.Region
		step impl.Q
		want int
	}{
		{"400 pieces", columns(append(fifteen, 16)...), q(1, 1), 400},
		{"401 pieces", columns(append(fifteen, 17)...), q(1, 1), -1},
		{"400 pieces of which one line has one", columns(append(fifteen[1:], 15, 17)...), q(1, 1), 400},
		{"many pieces on each line", columns(slices.Repeat([]int64{20}, 20)...), q(1, 1), 400},
		{"too many pieces on each line", columns(slices.Repeat([]int64{21}, 20)...), q(1, 1), -1},
		{"400 lines", columns(400), q(1, 1), 400},
		{"401 lines", columns(401), q(1, 1), -1},
		{"400 lines from below 0 on", region(box(0, -200, 1, 199)), q(1, 1), 400},
		{"401 lines from below 0 on", region(box(0, -200, 1, 200)), q(1, 1), -1},
		{"400 lines, one at a corner", region(lp(0, 0, 2, 0, 1, 399)), q(1, 1), 399},
		{"401 lines, one at a corner", region(lp(0, 0, 2, 0, 1, 400)), q(1, 1), -1},
		{"399 lines, two at corners", diamond(199), q(1, 1), 397},
		{"400 lines, two at corners", region(lp(0, 200, 1, 0, 2, 200, 1, 399)), q(1, 1), 398},
		{"401 lines, two at corners", diamond(200), q(1, 1), -1},
		{"400 lines, the lowest place below the first", region(halfLoop(0, 1, 2, 1, 2, 801, 0, 801)), q(1, 1), 400},
		{"401 lines, the lowest place below the first", region(halfLoop(0, 1, 2, 1, 2, 803, 0, 803)), q(1, 1), -1},
		{"400 lines, below 0", region(halfLoop(0, -801, 2, -801, 2, -1, 0, -1)), q(1, 1), 400},
		{"401 lines, below 0", region(halfLoop(0, -803, 2, -803, 2, -1, 0, -1)), q(1, 1), -1},
		{"400 lines, of fractions", region(box(0, 0, 1, 57)), q(1, 7), 400},
		{"401 lines, of fractions", region(halfLoop(0, 0, 2, 0, 2, 115, 0, 115)), q(1, 7), -1},
		{"lines between do not count", region(box(0, 0, 1, 199), box(0, 5000, 1, 5199)), q(1, 1), 400},
		{"lines between do not count, one more", region(box(0, 0, 1, 199), box(0, 5000, 1, 5200)), q(1, 1), -1},
		{"far more lines than can be gone through", region(box(-top, -top, top, top)), q(1, top), -1},
		{"far more lines than can be gone through, in a narrow one", region(box(0, 0, 1, top)), q(1, 1), -1},
	} {
		list, ok := impl.Fill(c.r, c.step)
		if ok != (c.want >= 0) || ok && len(list) != c.want || !ok && len(list) != 0 {
			t.Error(c.name, len(list), ok, "not", c.want)
		}
	}
	for _, n := range []int64{398, 399} {
		checkFill(t, n, region(lp(0, 0, 2, 0, 1, n)), q(1, 1))
	}
}

// Whether a multiple is even is told where it is far above an int64, too: lines are so near to each other that one alone is
// between two Qs.
func TestFillsGreatMultiples(t *testing.T) {
	for _, c := range []struct {
		num, den int64
		odd      bool
	}{{top - 3, 1 << 18 * 1220703125, true}, {top - 3, 1000000000000000, false}, {-(top - 7), 1 << 18 * 1220703125, true}, {-(top - 7), 1000000000000000, false}} {
		// The nearest fractions with lesser denominators, on both sides: p den - num k is 1 and -1.
		num, den := big.NewInt(c.num), big.NewInt(c.den)
		k := new(big.Int).ModInverse(new(big.Int).Mod(new(big.Int).Neg(num), den), den)
		p := new(big.Int).Div(new(big.Int).Add(big.NewInt(1), new(big.Int).Mul(k, num)), den)
		high, ok1 := lowest(p, k)
		low, ok2 := lowest(new(big.Int).Sub(num, p), new(big.Int).Sub(den, k))
		on, ok3 := lowest(num, den)
		if !ok1 || !ok2 || !ok3 || impl.QCmp(low, on) != -1 || impl.QCmp(on, high) != -1 {
			t.Fatal("no neighbours of", on, low, high)
		}
		r := region([]impl.V{{X: q(0, 1), Y: low}, {X: q(1, 1), Y: low}, {X: q(1, 1), Y: high}, {X: q(0, 1), Y: high}})
		want := impl.Seg{A: impl.V{X: q(0, 1), Y: on}, B: impl.V{X: q(1, 1), Y: on}}
		if c.odd {
			want = turned(want)
		}
		list, ok := checkFill(t, "great multiples", r, q(1, top))
		if !ok || !slices.Equal(list, segs(want)) {
			t.Error("great multiples", list, ok, "not", want)
		}
	}
}

func TestFillsNoPlace(t *testing.T) {
	slant := []impl.V{at(-1, 3), at(0, 0), {X: q(1, top-1), Y: q(3, 1)}}
	for _, c := range []struct {
		name string
		r    impl.Region
		step impl.Q
		want int
	}{
		{"X is no Q", region(slant), q(1, 1), -1},
		{"X is no Q, on the left", region(begun([]impl.V{at(0, 0), at(1, 3), {X: q(-1, top-1), Y: q(3, 1)}}, 2)), q(1, 1), -1},
		{"X is a Q at the ends", region(slant), q(3, 1), 1},
		{"Y is no Q", region(box(0, top-1, 1, top)), q(1, 2), -1},
		{"Y is no Q, below", region(box(0, -top, 1, 1-top)), q(1, 3), -1},
		{"Y is a Q", region(box(0, top-1, 1, top)), q(1, 1), 2},
		{"Y is no Q outside alone", region(box(0, top-1, 1, top)), q(top-1, 2), 1},
	} {
		if list, ok := checkFill(t, c.name, c.r, c.step); ok != (c.want >= 0) || ok && len(list) != c.want {
			t.Error(c.name, list, ok)
		}
	}
}

func checkNoFill(t *testing.T, name any, r impl.Region, step impl.Q) {
	t.Helper()
	if list, ok := impl.Fill(r, step); ok || len(list) != 0 {
		t.Error(name, "by", step, "is filled", list, ok)
	}
}

func TestFillsRefused(t *testing.T) {
	for name, loops := range notOutlines() {
		for _, step := range []impl.Q{q(1, 1), q(1, 2), q(100, 1)} {
			checkNoFill(t, name, impl.Region{Loops: loops}, step)
		}
	}
	for _, r := range brokenRegions() {
		checkNoFill(t, r, r, q(1, 1))
	}
	for _, r := range []impl.Region{{}, region(box(0, 0, 6, 6)), region(box(0, 1, 1, 2))} {
		for _, step := range append(brokenFractions(), q(0, 1), q(-1, 1), q(-1, top), q(-top, 1)) {
			checkNoFill(t, r, r, step)
		}
	}
}

// A layer's fill lies in it.
func TestFillsOfLayers(t *testing.T) {
	t.Parallel()
	seen := 0
	for _, c := range solidCases() {
		s, ok := c.of.moved(aslant).skin()
		layers, fine := impl.Layers(s, q(-2, 1), q(1, 2), 12)
		if !ok || !fine {
			continue
		}
		for i, r := range layers {
			list, ok := impl.Fill(r, q(1, 5))
			if !ok {
				t.Fatal(c.name, "layer", i, "is not filled")
			}
			for _, m := range list {
				seen++
				if in, ok := impl.ClipSeg(r, m); !ok || !slices.Equal(in, segs(m)) {
					t.Fatal(c.name, "layer", i, "has a move", m, "of which", in, "is in it")
				}
			}
		}
	}
	if seen < 500 {
		t.Error("too few moves:", seen)
	}
}
