package tests

import (
	"math/big"
	"slices"
	"testing"

	"loop.example/g00022/impl"
)

// Promise 10: roofs.

// heightOver is what the document says of the plane of edge k over p.
func heightOver(loop []point, slopes []*big.Rat, k int, p point) *big.Rat {
	a, b := loop[k], loop[(k+1)%len(loop)]
	up := minusRat(timesRat(minusRat(b.x, a.x), minusRat(p.y, a.y)), timesRat(minusRat(b.y, a.y), minusRat(p.x, a.x)))
	return timesRat(slopes[k], up)
}

func ratsOf(list []impl.Q) []*big.Rat {
	var rats []*big.Rat
	for _, f := range list {
		rats = append(rats, rat(f))
	}
	return rats
}

// zeroLine is where a function that is the same along each of its lines is 0; it has to change somewhere.
func zeroLine(of func(point) *big.Rat) pointEdge {
	o, x, y := point{new(big.Rat), new(big.Rat)}, point{big.NewRat(1, 1), new(big.Rat)}, point{new(big.Rat), big.NewRat(1, 1)}
	a, b, c := minusRat(of(x), of(o)), minusRat(of(y), of(o)), of(o)
	size := plusRat(timesRat(a, a), timesRat(b, b))
	k := new(big.Rat).Quo(c, size)
	on := point{timesRat(a, new(big.Rat).Neg(k)), timesRat(b, new(big.Rat).Neg(k))}
	return pointEdge{on, point{minusRat(on.x, b), plusRat(on.y, a)}}
}

// wantNoneBelow tries all crossings of the lines at which one of the functions is 0, and keeps those where none is below 0.
func wantNoneBelow(all []func(point) *big.Rat) []point {
	var lines []pointEdge
	for _, of := range all {
		lines = append(lines, zeroLine(of))
	}
	isOut := func(p point) bool {
		return slices.ContainsFunc(all, func(of func(point) *big.Rat) bool { return of(p).Sign() < 0 })
	}
	return roundLeft(crossingsOf(lines, isOut))
}

// wantPanels is false where a number is no Q.
func wantPanels(places []impl.V, numbers []impl.Q) ([]impl.Panel, bool) {
	loop, slopes, panels := pointsOf(places), ratsOf(numbers), []impl.Panel(nil)
	for k := range loop {
		var all []func(point) *big.Rat
		for j := range loop {
			all = append(all, func(p point) *big.Rat { return heightOver(loop, slopes, j, p) })
			if j != k {
				all = append(all, func(p point) *big.Rat {
					return minusRat(heightOver(loop, slopes, j, p), heightOver(loop, slopes, k, p))
				})
			}
		}
		corners := wantNoneBelow(all)
		panel := impl.Panel{Edge: int64(k)}
		var ok bool
		if panel.Loop, ok = placesOf(corners); !ok {
			return nil, false
		}
		for _, p := range corners {
			top, ok := asQ(heightOver(loop, slopes, k, p))
			if !ok {
				return nil, false
			}
			panel.Tops = append(panel.Tops, top)
		}
		panels = append(panels, panel)
	}
	return panels, true
}

func wantLevel(places []impl.V, numbers []impl.Q, h impl.Q) ([]impl.V, bool) {
	loop, slopes := pointsOf(places), ratsOf(numbers)
	var all []func(point) *big.Rat
	for j := range loop {
		all = append(all, func(p point) *big.Rat { return minusRat(heightOver(loop, slopes, j, p), rat(h)) })
	}
	return placesOf(wantNoneBelow(all))
}

func samePanels(a, b []impl.Panel) bool {
	return slices.EqualFunc(a, b, func(p, o impl.Panel) bool {
		return p.Edge == o.Edge && slices.Equal(p.Loop, o.Loop) && slices.Equal(p.Tops, o.Tops)
	})
}

func checkRoof(t *testing.T, loop []impl.V, slopes []impl.Q) ([]impl.Panel, bool) {
	t.Helper()
	want, fine := wantPanels(loop, slopes)
	got, ok := impl.Roof(loop, slopes)
	if ok != fine || !samePanels(got, want) {
		t.Fatal("over", loop, slopes, "is", got, ok, "not", want, fine)
	}
	if ok {
		checkPanels(t, loop, slopes, got)
	}
	return got, ok
}

// checkPanels: the panels have together the area of the loop, each is its own hull, and over places of each its plane is the least.
func checkPanels(t *testing.T, loop []impl.V, slopes []impl.Q, panels []impl.Panel) {
	t.Helper()
	area, points, rats := new(big.Rat), pointsOf(loop), ratsOf(slopes)
	for k, panel := range panels {
		corners := pointsOf(panel.Loop)
		area = plusRat(area, area2Of(corners))
		if hull, ok := impl.Hull2(panel.Loop); !ok || !slices.Equal(hull, panel.Loop) || len(hull) < 3 || len(panel.Tops) != len(hull) {
			t.Fatal("panel", k, "over", loop, slopes, "is", panel)
		}
		for i, p := range corners {
			// Corners, and places on the way from one to the next but one.
			for _, o := range []point{p, between(p, corners[(i+2)%len(corners)], big.NewRat(1, 3))} {
				least := heightOver(points, rats, k, o)
				for j := range loop {
					if heightOver(points, rats, j, o).Cmp(least) < 0 {
						t.Fatal("plane", j, "is below", k, "over", o, "of", loop, slopes)
					}
				}
			}
		}
	}
	if area.Cmp(area2Of(points)) != 0 {
		t.Fatal("the panels", panels, "have not the area of", loop)
	}
}

// checkLevel asks, too, for what a roof has at least that height.
func checkLevel(t *testing.T, loop []impl.V, slopes []impl.Q, h impl.Q) ([]impl.V, bool) {
	t.Helper()
	want, fine := wantLevel(loop, slopes, h)
	got, ok := impl.Level(loop, slopes, h)
	if ok != fine || !slices.Equal(got, want) {
		t.Fatal("level", h, "of", loop, slopes, "is", got, ok, "not", want, fine)
	}
	return got, ok
}

func slopesOf(list ...int64) []impl.Q {
	var slopes []impl.Q
	for _, n := range list {
		slopes = append(slopes, q(n, 1))
	}
	return slopes
}

func same(n int, f impl.Q) []impl.Q { return slices.Repeat([]impl.Q{f}, n) }

// panelOf has the places of loop, of which each third number is a height.
func panelOf(edge int64, xyz ...int64) impl.Panel {
	p := impl.Panel{Edge: edge}
	for i := 0; i+2 < len(xyz); i += 3 {
		p.Loop = append(p.Loop, at(xyz[i], xyz[i+1]))
		p.Tops = append(p.Tops, q(xyz[i+2], 1))
	}
	return p
}

func TestRoofsByHand(t *testing.T) {
	for _, c := range []struct {
		name   string
		loop   []impl.V
		slopes []impl.Q
		want   []impl.Panel
	}{
		{"a triangle", lp(0, 0, 6, 0, 0, 6), slopesOf(1, 1, 1), []impl.Panel{panelOf(0, 0, 0, 0, 6, 0, 0, 2, 2, 12), panelOf(1, 0, 6, 0, 2, 2, 12, 6, 0, 0), panelOf(2, 0, 0, 0, 2, 2, 12, 0, 6, 0)}},
		{"a triangle, one side steep", lp(0, 0, 6, 0, 0, 6), slopesOf(1, 1, 4), []impl.Panel{
			{Edge: 0, Loop: []impl.V{at(0, 0), at(6, 0), {X: q(2, 3), Y: q(8, 3)}}, Tops: []impl.Q{q(0, 1), q(0, 1), q(16, 1)}},
			{Edge: 1, Loop: []impl.V{at(0, 6), {X: q(2, 3), Y: q(8, 3)}, at(6, 0)}, Tops: []impl.Q{q(0, 1), q(16, 1), q(0, 1)}},
			{Edge: 2, Loop: []impl.V{at(0, 0), {X: q(2, 3), Y: q(8, 3)}, at(0, 6)}, Tops: []impl.Q{q(0, 1), q(16, 1), q(0, 1)}}}},
		{"a square", box(0, 0, 4, 4), slopesOf(1, 1, 1, 1), []impl.Panel{panelOf(0, 0, 0, 0, 4, 0, 0, 2, 2, 8), panelOf(1, 2, 2, 8, 4, 0, 0, 4, 4, 0), panelOf(2, 0, 4, 0, 2, 2, 8, 4, 4, 0), panelOf(3, 0, 0, 0, 2, 2, 8, 0, 4, 0)}},
		{"a rectangle with a ridge", box(0, 0, 12, 4), slopesOf(1, 3, 1, 3), []impl.Panel{panelOf(0, 0, 0, 0, 12, 0, 0, 10, 2, 24, 2, 2, 24), panelOf(1, 10, 2, 24, 12, 0, 0, 12, 4, 0), panelOf(2, 0, 4, 0, 2, 2, 24, 10, 2, 24, 12, 4, 0), panelOf(3, 0, 0, 0, 2, 2, 24, 0, 4, 0)}},
		{"a rectangle, all over one place", box(0, 0, 12, 4), slopesOf(1, 1, 1, 1), []impl.Panel{panelOf(0, 0, 0, 0, 12, 0, 0, 6, 2, 24), panelOf(1, 6, 2, 24, 12, 0, 0, 12, 4, 0), panelOf(2, 0, 4, 0, 6, 2, 24, 12, 4, 0), panelOf(3, 0, 0, 0, 6, 2, 24, 0, 4, 0)}},
		{"an upright ridge", box(0, 0, 4, 12), slopesOf(3, 1, 3, 1), []impl.Panel{panelOf(0, 0, 0, 0, 4, 0, 0, 2, 2, 24), panelOf(1, 2, 2, 24, 4, 0, 0, 4, 12, 0, 2, 10, 24), panelOf(2, 0, 12, 0, 2, 10, 24, 4, 12, 0), panelOf(3, 0, 0, 0, 2, 2, 24, 2, 10, 24, 0, 12, 0)}},
	} {
		if got, ok := checkRoof(t, c.loop, c.slopes); !ok || !samePanels(got, c.want) {
			t.Error(c.name, got, ok, "not", c.want)
		}
	}
}

func TestRoofsOfLoops(t *testing.T) {
	t.Parallel()
	loops := [][]impl.V{
		lp(0, 0, 5, 1, 2, 7), lp(0, 0, 9, 0, 7, 3, 2, 3), lp(0, 0, 9, 1, 8, 6, 1, 5), lp(0, 3, 3, 0, 6, 3, 3, 6), lp(0, 0, 4, 0, 6, 2, 6, 6, 2, 6, 0, 4),
		begun(round(), 6), lp(0, 0, 1000, 0, 1000, 1), bowl(9), lp(0, 2, 2, 0, 4, 0, 6, 2, 6, 4, 4, 6, 2, 6, 0, 4),
	}
	corners := make(map[int]int)
	for _, loop := range loops {
		n := len(loop)
		unlike, steep := make([]impl.Q, n), same(n, q(1, 1))
		for i := range unlike {
			unlike[i], _ = impl.QOf(int64(1+i*i%7), int64(1+i%3))
		}
		steep[n/2] = q(1000000007, 1)
		flat := same(n, q(1, 1))
		flat[0] = q(1, 1000000007)
		for _, slopes := range [][]impl.Q{same(n, q(1, 1)), same(n, q(3, 7)), unlike, steep, flat} {
			panels, ok := checkRoof(t, loop, slopes)
			if !ok {
				t.Error("no roof over", loop, slopes)
			}
			for _, p := range panels {
				corners[len(p.Loop)]++
			}
			for _, h := range []impl.Q{q(0, 1), q(1, 2), q(3, 1), q(17, 2), q(100, 1), q(1, 1000000007)} {
				checkLevel(t, loop, slopes, h)
			}
		}
	}
	if corners[3] < 50 || corners[4] < 40 || corners[5]+corners[6] < 10 {
		t.Error("too few of a kind", corners)
	}
}

// hullOf makes a convex loop of some places.
func (s *spots) hullOf(n int) []impl.V {
	for {
		var list []impl.V
		for range n {
			list = append(list, s.place())
		}
		if hull, _ := impl.Hull2(list); len(hull) > 2 {
			return hull
		}
	}
}

func TestRoofsMany(t *testing.T) {
	t.Parallel()
	fine, refused, levels, none, noLevel := 0, 0, 0, 0, 0
	for kind := range spotKinds {
		s := &spots{dice(1050 + kind), kind}
		for range 40 {
			loop := s.hullOf(3 + int(s.next()%6))
			slopes := make([]impl.Q, len(loop))
			for i := range slopes {
				slopes[i], _ = impl.QOf(1+int64(s.next()%9), 1+int64(s.next()%5))
				if f := s.coord(); kind > 2 && f.Num != 0 {
					slopes[i] = q(max(f.Num, -f.Num), f.Den)
				}
			}
			if _, ok := checkRoof(t, loop, slopes); ok {
				fine++
			} else {
				refused++
			}
			for range 3 {
				h := s.coord()
				h.Num = max(h.Num, -h.Num)
				switch level, ok := checkLevel(t, loop, slopes, h); {
				case !ok:
					noLevel++
				case len(level) == 0:
					none++
				default:
					levels++
				}
			}
		}
	}
	if fine < 70 || refused < 30 || levels < 100 || none < 50 || noLevel < 20 {
		t.Error("too few of a kind", fine, refused, levels, none, noLevel)
	}
}

func TestLevelsByHand(t *testing.T) {
	sq, hip, blunt := box(0, 0, 4, 4), box(0, 0, 12, 4), lp(0, 0, 12, 0, 7, 5, 5, 5)
	one, ridge := slopesOf(1, 1, 1, 1), slopesOf(1, 3, 1, 3)
	// Over the short edge it rises with 2 to 1, as over the long one; over the others x - y, and 12 - x - y.
	soft := []impl.Q{q(1, 6), q(1, 5), q(1, 1), q(1, 5)}
	fine := func(x, y int64) impl.V {
		v, _ := point{big.NewRat(x, 200), big.NewRat(y, 200)}.place()
		return v
	}
	half := func(x, y int64) impl.V {
		v, _ := point{big.NewRat(x, 2), big.NewRat(y, 2)}.place()
		return v
	}
	for _, c := range []struct {
		name   string
		loop   []impl.V
		slopes []impl.Q
		h      impl.Q
		want   []impl.V
	}{
		{"at 0", sq, one, q(0, 1), sq},
		{"at 0, a triangle", lp(0, 0, 6, 0, 0, 6), slopesOf(5, 1, 2), q(0, 1), lp(0, 0, 6, 0, 0, 6)},
		{"at 0, many", bowl(16), same(16, q(2, 3)), q(0, 1), bowl(16)},
		{"below the top", sq, one, q(4, 1), box(1, 1, 3, 3)},
		{"a little below the top", sq, one, q(6, 1), []impl.V{half(3, 3), half(5, 3), half(5, 5), half(3, 5)}},
		{"just the top, a place", sq, one, q(8, 1), nil},
		{"above the top, a little", sq, one, q(8000000001, 1000000000), nil},
		{"above the top", sq, one, q(top, 1), nil},
		{"below a ridge", hip, ridge, q(12, 1), box(1, 1, 11, 3)},
		{"just a ridge", hip, ridge, q(24, 1), nil},
		{"above a ridge", hip, ridge, q(25, 1), nil},
		{"a triangle", lp(0, 0, 6, 0, 0, 6), slopesOf(1, 1, 1), q(6, 1), lp(1, 1, 4, 1, 1, 4)},
		{"a triangle, just the top", lp(0, 0, 6, 0, 0, 6), slopesOf(1, 1, 1), q(12, 1), nil},
		{"a short edge", blunt, soft, q(1, 1), []impl.V{half(3, 1), half(21, 1), half(13, 9), half(11, 9)}},
		{"an edge that is all but gone", blunt, soft, q(199, 100), []impl.V{fine(597, 199), fine(1803, 199), fine(1201, 801), fine(1199, 801)}},
		{"an edge that is just gone", blunt, soft, q(2, 1), lp(3, 1, 9, 1, 6, 4)},
		{"an edge that is gone", blunt, soft, q(3, 1), []impl.V{half(9, 3), half(15, 3), at(6, 3)}},
		{"great", box(-top, -top, top, top), same(4, q(1, top)), q(top, 1), box(-top/2, -top/2, top/2, top/2)},
	} {
		if got, ok := checkLevel(t, c.loop, c.slopes, c.h); !ok || !slices.Equal(got, c.want) {
			t.Error(c.name, got, ok, "not", c.want)
		}
	}
}

func TestRoofsNoNumber(t *testing.T) {
	const wide = 2000000000
	for _, c := range []struct {
		name   string
		loop   []impl.V
		slopes []impl.Q
		fine   bool
		h      impl.Q
	}{
		{"as high as can be", box(0, 0, wide, wide), same(4, q(1, 2)), true, q(wide, 1)},
		{"too high, over a V", box(0, 0, wide+2, wide+2), same(4, q(1, 2)), false, q(wide+2, 1)},
		{"too high by one slope", box(0, 0, wide, wide), []impl.Q{q(1, 2), q(1, 2), q(1, 1), q(1, 1)}, false, q(wide, 1)},
		{"as low as can be", box(0, 0, 1, 1), same(4, q(1, top/2)), true, q(0, 1)},
		{"too small a height", box(0, 0, 1, 1), same(4, q(1, top)), false, q(0, 1)},
		{"a corner that is no V", lp(0, 0, 6, 0, 0, 6), []impl.Q{q(1, 1), q(1000000007, 998244353), q(998244353, 1000000007)}, false, q(0, 1)},
		// All planes meet at the height 1 by 2, but over a place with the denominator 2 times both primes.
		{"a corner that is no V, of a fine height", []impl.V{at(0, 0), {X: q(1, 1000000007), Y: q(0, 1)}, at(0, 1000000007)}, []impl.Q{q(1, 1), q(1000000009, 1000000008), q(1000000009, 1)}, false, q(0, 1)},
		{"great", box(-top, -top, top, top), same(4, q(1, top)), false, q(top, 1)},
	} {
		if got, ok := checkRoof(t, c.loop, c.slopes); ok != c.fine {
			t.Error(c.name, got, ok)
		}
		// Of a level, nothing but its own corners is told.
		if got, ok := checkLevel(t, c.loop, c.slopes, c.h); !ok || len(got) == 0 {
			t.Error(c.name, "level", got, ok)
		}
	}
	for h, fine := range map[impl.Q]bool{q(0, 1): true, q(1, top): false, q(1, top/2): false, q(1, 7): true, q(top, 1): true, q(12, 1): true, q(11999999999, 1000000000): true, q(top-1, top): false} {
		if got, ok := checkLevel(t, lp(0, 0, 6, 0, 0, 6), slopesOf(1, 1, 1), h); ok != fine {
			t.Error("level", h, got, ok)
		}
	}
}

func checkNoRoof(t *testing.T, name any, loop []impl.V, slopes []impl.Q) {
	t.Helper()
	if got, ok := impl.Roof(loop, slopes); ok || len(got) != 0 {
		t.Error(name, "has a roof", got, ok)
	}
	for _, h := range []impl.Q{q(0, 1), q(1, 2), q(top, 1)} {
		if got, ok := impl.Level(loop, slopes, h); ok || len(got) != 0 {
			t.Error(name, "has a level", got, ok)
		}
	}
}

func TestRoofsRefused(t *testing.T) {
	sq, one := box(0, 0, 4, 4), same(4, q(1, 1))
	if _, ok := checkRoof(t, bowl(impl.MaxRoof), same(impl.MaxRoof, q(1, 2))); !ok || impl.MaxRoof != 16 {
		t.Error("as many places as there may be")
	}
	if _, ok := checkLevel(t, bowl(impl.MaxRoof), same(impl.MaxRoof, q(1, 2)), q(1, 1)); !ok {
		t.Error("a level of as many places as there may be")
	}
	for n := range 20 {
		if n < 3 || n > impl.MaxRoof {
			checkNoRoof(t, n, bowl(int64(n)), same(n, q(1, 2)))
		}
		if n != len(sq) {
			checkNoRoof(t, n, sq, same(n, q(1, 1)))
		}
	}
	checkNoRoof(t, "no slopes", sq, nil)
	for _, loop := range notOwnHulls() {
		checkNoRoof(t, loop, loop, same(len(loop), q(1, 1)))
		checkNoRoof(t, loop, loop, one)
	}
	for _, f := range append(brokenFractions(), q(0, 1), q(-1, 1), q(-top, 1), q(-1, top)) {
		for i := range one {
			slopes := slices.Clone(one)
			slopes[i] = f
			checkNoRoof(t, slopes, sq, slopes)
		}
		checkNoRoof(t, f, sq, same(4, f))
	}
	for _, h := range append(brokenFractions(), q(-1, 1), q(-top, 1), q(-1, top)) {
		for _, loop := range [][]impl.V{sq, lp(0, 0, 6, 0, 0, 6)} {
			if got, ok := impl.Level(loop, same(len(loop), q(1, 1)), h); ok || len(got) != 0 {
				t.Error("a level at", h, got, ok)
			}
		}
	}
}
