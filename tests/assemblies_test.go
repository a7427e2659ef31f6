package tests

import (
	"math/big"
	"slices"
	"testing"

	"loop.example/g00022/impl"
)

// Promise 20: where the parts of an assembly are, and which of them clash.

// A crew is an assembly whose parts are told by tetrahedra.
type crew struct {
	parts  []tetras
	joints []impl.Joint
}

func (c crew) assembly() impl.Assembly {
	return impl.Assembly{Parts: skins(c.parts...), Joints: c.joints}
}

// jt is a joint that turns, moves by whole numbers, and lets nothing slide.
func jt(to, turn, x, y, z int64) impl.Joint {
	return impl.Joint{To: to, Turn: turn, Move: v3(x, y, z), Lo: q(0, 1), Hi: q(0, 1), At: q(0, 1)}
}

// rail is j with another axis, and with Lo, Hi and At.
func rail(j impl.Joint, axis int64, lo, hi, at impl.Q) impl.Joint {
	j.Axis, j.Lo, j.Hi, j.At = axis, lo, hi, at
	return j
}

// slider is a joint to nothing, without a turn, that lets its part slide along X.
func slider(lo, hi, at int64) impl.Joint {
	return rail(jt(-1, 23, 0, 0, 0), 0, q(lo, 1), q(hi, 1), q(at, 1))
}

// wantTurns goes through all matrices of -1, 0 and 1, in the order of their numbers, and takes those that the document names.
func wantTurns() [][9]int64 {
	var list [][9]int64
	for n := range 19683 {
		var m [9]int64
		for i := range m {
			m[8-i] = int64(n%3) - 1
			n /= 3
		}
		if isTurn(m) {
			list = append(list, m)
		}
	}
	return list
}

func isTurn(m [9]int64) bool {
	for i := range 3 {
		row, column := 0, 0
		for k := range 3 {
			row += int(m[3*i+k] * m[3*i+k])
			column += int(m[3*k+i] * m[3*k+i])
		}
		if row != 1 || column != 1 {
			return false
		}
	}
	return rowDet(whole3(m[0], m[1], m[2]), whole3(m[3], m[4], m[5]), whole3(m[6], m[7], m[8])).Cmp(big.NewRat(1, 1)) == 0
}

var allTurns = wantTurns()

// whereTo tells where a place of the part i goes, joint by joint.
func whereTo(joints []impl.Joint, i int64, p point3) point3 {
	for i >= 0 {
		j := joints[i]
		m := allTurns[j.Turn]
		p = point3{whole3(m[0], m[1], m[2]).dot(p), whole3(m[3], m[4], m[5]).dot(p), whole3(m[6], m[7], m[8]).dot(p)}
		p = p.plus(point3Of(j.Move))
		p[j.Axis] = plusRat(p[j.Axis], rat(j.At))
		i = j.To
	}
	return p
}

// there tells the parts where they are.
func (c crew) there() []tetras {
	var list []tetras
	for i, part := range c.parts {
		list = append(list, part.moved(func(p point3) point3 { return whereTo(c.joints, int64(i), p) }))
	}
	return list
}

func (c crew) wantPlaced() ([]impl.Solid, bool) {
	var list []impl.Solid
	for _, part := range c.there() {
		s, ok := part.skin()
		if !ok || !areTold(s) {
			return nil, false
		}
		list = append(list, s)
	}
	return list, true
}

// haveInside tells whether two tetrahedra have inside in common: there is no plane between them, neither along a side of one
// nor along an edge of each. The axes are tried first, since they cost least.
func haveInside(a, b [4]point3) bool {
	isBetween := func(way point3) bool {
		low1, high1 := alongWay(way, a)
		low2, high2 := alongWay(way, b)
		return high1.Cmp(low2) <= 0 || high2.Cmp(low1) <= 0
	}
	if isBetween(whole3(1, 0, 0)) || isBetween(whole3(0, 1, 0)) || isBetween(whole3(0, 0, 1)) {
		return false
	}
	for _, t := range [][4]point3{a, b} {
		for out := range 4 {
			if isBetween(normalAt(t[(out+1)%4], t[(out+2)%4], t[(out+3)%4])) {
				return false
			}
		}
	}
	zero := whole3(0, 0, 0)
	for i := range a {
		for j := range i {
			for k := range b {
				for l := range k {
					way := normalAt(zero, a[i].minus(a[j]), b[k].minus(b[l]))
					if way.cmp(zero) != 0 && isBetween(way) {
						return false
					}
				}
			}
		}
	}
	return true
}

func alongWay(way point3, t [4]point3) (low, high *big.Rat) {
	for i, p := range t {
		far := way.dot(p)
		if i == 0 || far.Cmp(low) < 0 {
			low = far
		}
		if i == 0 || far.Cmp(high) > 0 {
			high = far
		}
	}
	return low, high
}

func clash(a, b tetras) bool {
	for i := range a.list {
		for j := range b.list {
			if haveInside(a.corners(i), b.corners(j)) {
				return true
			}
		}
	}
	return false
}

func (c crew) wantClashes() []impl.Pair {
	var pairs []impl.Pair
	list := c.there()
	for i, one := range list {
		for j := i + 1; j < len(list); j++ {
			if clash(one, list[j]) {
				pairs = append(pairs, pair(int64(i), int64(j)))
			}
		}
	}
	return pairs
}

// checkPlaced tells the Pairs, and whether the parts are solids where they are.
func checkPlaced(t *testing.T, name any, c crew) ([]impl.Pair, bool) {
	t.Helper()
	a := c.assembly()
	if !impl.AsmOk(a) {
		t.Fatal(name, "is an assembly:", a.Joints)
	}
	want, fine := c.wantPlaced()
	list, ok1 := impl.Placed(a)
	pairs, ok2 := impl.Clashes(a)
	if ok1 != fine || ok2 != fine || !slices.EqualFunc(list, want, sameSolids) {
		t.Fatal(name, c.joints, "is placed", list, ok1, ok2, "not", want, fine)
	}
	if !fine {
		if len(pairs) > 0 {
			t.Fatal(name, "clashes nowhere:", pairs)
		}
		return nil, false
	}
	for i, s := range list {
		if volumeOf(s).Cmp(volumeOf(a.Parts[i])) != 0 || !impl.SolidOk(s) {
			t.Fatal(name, "part", i, "has another volume")
		}
	}
	if want := c.wantClashes(); !slices.Equal(pairs, want) {
		t.Fatal(name, c.joints, "clashes", pairs, "not", want)
	}
	return pairs, true
}

func TestTurnsByHand(t *testing.T) {
	part := tt(1, 2, 4, 2, 2, 4, 1, 3, 4, 1, 2, 5)
	if len(allTurns) != 24 {
		t.Fatal("there are", len(allTurns), "rotations")
	}
	byHand := map[int64][9]int64{
		0: {-1, 0, 0, 0, -1, 0, 0, 0, 1}, 1: {-1, 0, 0, 0, 0, -1, 0, -1, 0}, 2: {-1, 0, 0, 0, 0, 1, 0, 1, 0}, 3: {-1, 0, 0, 0, 1, 0, 0, 0, -1},
		4: {0, -1, 0, -1, 0, 0, 0, 0, -1}, 5: {0, -1, 0, 0, 0, -1, 1, 0, 0}, 8: {0, 0, -1, -1, 0, 0, 0, 1, 0}, 12: {0, 0, 1, -1, 0, 0, 0, -1, 0},
		16: {0, 1, 0, -1, 0, 0, 0, 0, 1}, 19: {0, 1, 0, 1, 0, 0, 0, 0, -1}, 20: {1, 0, 0, 0, -1, 0, 0, 0, -1}, 22: {1, 0, 0, 0, 0, 1, 0, -1, 0},
		23: {1, 0, 0, 0, 1, 0, 0, 0, 1},
	}
	for n := range int64(24) {
		if m, ok := byHand[n]; ok && m != allTurns[n] {
			t.Error("rotation", n, "is", allTurns[n], "not", m)
		}
		checkPlaced(t, n, crew{[]tetras{part}, []impl.Joint{jt(-1, n, 0, 0, 0)}})
		checkPlaced(t, n, crew{[]tetras{part.moved(aslant)}, []impl.Joint{rail(jt(-1, n, 3, -5, 7), n%3, q(-9, 1), q(9, 1), q(-1, 2))}})
	}
	// The corner at the origin and what is 1, 2 and 3 away along the axes go where the rows say.
	s, _ := impl.Hull3([]impl.V3{v3(0, 0, 0), v3(1, 0, 0), v3(0, 2, 0), v3(0, 0, 3)})
	list, ok := impl.Placed(impl.Assembly{Parts: []impl.Solid{s}, Joints: []impl.Joint{rail(jt(-1, 5, 10, 20, 30), 1, q(0, 1), q(9, 1), q(1, 2))}})
	want, _ := impl.Hull3([]impl.V3{{X: q(10, 1), Y: q(41, 2), Z: q(30, 1)}, {X: q(10, 1), Y: q(41, 2), Z: q(31, 1)}, {X: q(8, 1), Y: q(41, 2), Z: q(30, 1)}, {X: q(10, 1), Y: q(35, 2), Z: q(30, 1)}})
	if !ok || len(list) != 1 || !sameSolids(list[0], want) {
		t.Error("rotation 5 gives", list, ok)
	}
}

// A quarter turn about X takes (y, z) to (-z, y); two of them, one on the other, are a half turn, and what the second joint
// moves and slides by is turned along.
func TestPartsOnPartsByHand(t *testing.T) {
	quarter := int64(slices.Index(allTurns, [9]int64{1, 0, 0, 0, 0, -1, 0, 1, 0}))
	part := bx(0, 0, 0, 1, 2, 3)
	c := crew{[]tetras{part, part, part}, []impl.Joint{
		jt(-1, quarter, 7, 0, 0),
		rail(jt(0, quarter, 0, 5, 0), 2, q(-9, 1), q(9, 1), q(-2, 1)),
		rail(jt(1, 23, 0, 0, 1), 0, q(0, 1), q(4, 1), q(4, 1)),
	}}
	list, ok := impl.Placed(c.assembly())
	if !ok || len(list) != 3 {
		t.Fatal("placed", list, ok)
	}
	for i, want := range [][2]impl.V3{{v3(7, -3, 0), v3(8, 0, 2)}, {v3(7, 0, 2), v3(8, 2, 5)}, {v3(11, 0, 1), v3(12, 2, 4)}} {
		if s, _ := impl.Box(want[0], want[1]); !sameSolids(list[i], s) {
			t.Error("part", i, "is", list[i], "not", s)
		}
	}
	checkPlaced(t, "two quarter turns", c)
}

func TestPlacedMany(t *testing.T) {
	t.Parallel()
	d := dice(200)
	pool := append(solidPool(), tt(0, 0, 0, 5, 1, 0, 1, 4, 0, 2, 1, 3), fan(), pyramid(whole3(0, 2, 3)))
	clashed, refused := 0, 0
	for n := range 100 {
		var c crew
		for i := range int64(1 + n%5) {
			c.parts = append(c.parts, pool[d.next()%uint64(len(pool))])
			j := rail(jt(int64(d.next()%uint64(i+1))-1, int64(d.next()%24), d.upTo(2), d.upTo(2), d.upTo(2)), int64(d.next()%3), q(-5, 1), q(5, 1), q(d.upTo(2), 1))
			if n%4 == 0 {
				j.At = q(2*d.upTo(4)+1, 2)
			}
			if n%20 == 19 {
				// At such places few parts can be.
				j.Move.X, j.At = q(top-1, 1), q(2, 1)
			}
			c.joints = append(c.joints, j)
		}
		pairs, ok := checkPlaced(t, n, c)
		clashed += len(pairs)
		if !ok {
			refused++
		}
		checkAlone(t, n, c.assembly(), pairs)
	}
	if clashed < 20 || refused < 3 {
		t.Error("only", clashed, "clashes and", refused, "that were refused")
	}
}

// checkAlone empties all parts but two: these clash, or don't, as they did.
func checkAlone(t *testing.T, name any, a impl.Assembly, pairs []impl.Pair) {
	t.Helper()
	if _, ok := impl.Placed(a); !ok {
		return
	}
	for i := range a.Parts {
		for j := i + 1; j < len(a.Parts); j++ {
			two := impl.Assembly{Parts: make([]impl.Solid, len(a.Parts)), Joints: a.Joints}
			two.Parts[i], two.Parts[j] = a.Parts[i], a.Parts[j]
			p := pair(int64(i), int64(j))
			var want []impl.Pair
			if slices.Contains(pairs, p) {
				want = append(want, p)
			}
			if got, ok := impl.Clashes(two); !ok || !slices.Equal(got, want) {
				t.Fatal(name, "parts", i, j, "alone clash", got, ok, "not", want)
			}
		}
	}
}

func TestClashesByHand(t *testing.T) {
	cube, hollow := bx(0, 0, 0, 2, 2, 2), cubes(less(block(3, 3, 3), [3]int64{1, 1, 1})...)
	at := func(x, y, z int64) impl.Joint { return jt(-1, 23, x, y, z) }
	for _, c := range []struct {
		name string
		crew crew
		want []impl.Pair
	}{
		{"nothing", crew{}, nil},
		{"one", crew{[]tetras{cube}, []impl.Joint{at(0, 0, 0)}}, nil},
		{"inside in common", crew{[]tetras{cube, cube}, []impl.Joint{at(0, 0, 0), at(1, 1, 1)}}, pairsOf(0, 1)},
		{"a face", crew{[]tetras{cube, cube}, []impl.Joint{at(0, 0, 0), at(2, 1, 0)}}, nil},
		{"an edge", crew{[]tetras{cube, cube}, []impl.Joint{at(0, 0, 0), at(2, 2, 1)}}, nil},
		{"a corner", crew{[]tetras{cube, cube}, []impl.Joint{at(0, 0, 0), at(2, 2, 2)}}, nil},
		{"far away", crew{[]tetras{cube, cube}, []impl.Joint{at(0, 0, 0), at(9, 0, 0)}}, nil},
		{"the same twice", crew{[]tetras{cube, cube}, []impl.Joint{at(0, 0, 0), at(0, 0, 0)}}, pairsOf(0, 1)},
		{"one in the other", crew{[]tetras{bx(0, 0, 0, 9, 9, 9), cube}, []impl.Joint{at(0, 0, 0), at(3, 3, 3)}}, pairsOf(0, 1)},
		{"one in the hollow of the other", crew{[]tetras{hollow, bx(0, 0, 0, 1, 1, 1)}, []impl.Joint{at(0, 0, 0), at(1, 1, 1)}}, nil},
		{"one that sticks in its wall", crew{[]tetras{hollow, bx(0, 0, 0, 1, 1, 1)}, []impl.Joint{at(0, 0, 0), rail(at(1, 1, 1), 2, q(0, 1), q(1, 1), q(1, 7))}}, pairsOf(0, 1)},
		{"three", crew{[]tetras{cube, cube, cube}, []impl.Joint{at(0, 0, 0), at(1, 0, 0), at(1, 1, 0)}}, pairsOf(0, 1, 0, 2, 1, 2)},
		{"three, of which two do not", crew{[]tetras{cube, cube, cube}, []impl.Joint{at(0, 0, 0), at(2, 0, 0), at(1, 1, 0)}}, pairsOf(0, 2, 1, 2)},
		{"five", crew{[]tetras{cube, cube, cube, cube, cube}, []impl.Joint{at(0, 0, 0), at(9, 0, 0), at(1, 0, 0), at(10, 0, 0), at(0, 1, 0)}}, pairsOf(0, 2, 0, 4, 1, 3, 2, 4)},
		{"with an empty one", crew{[]tetras{cube, {}, cube}, []impl.Joint{at(0, 0, 0), at(0, 0, 0), at(1, 1, 1)}}, pairsOf(0, 2)},
		{"empty ones alone", crew{[]tetras{{}, {}}, []impl.Joint{at(0, 0, 0), at(0, 0, 0)}}, nil},
		{"one that hangs on the other", crew{[]tetras{cube, cube}, []impl.Joint{at(5, 0, 0), jt(0, 23, 1, 0, 0)}}, pairsOf(0, 1)},
		{"two that would not, if they did not hang", crew{[]tetras{cube, cube, cube}, []impl.Joint{at(0, 0, 0), at(5, 0, 0), jt(0, 23, 5, 0, 0)}}, pairsOf(1, 2)},
	} {
		pairs, ok := checkPlaced(t, c.name, c.crew)
		if !ok || !slices.Equal(pairs, c.want) {
			t.Error(c.name, "clashes", pairs, ok, "not", c.want)
		}
		checkAlone(t, c.name, c.crew.assembly(), pairs)
	}
}

// What comes up on the way does not matter, only where a part is in the end.
func TestPlacedAtTheLimits(t *testing.T) {
	cube, far := bx(0, 0, 0, 1, 1, 1), betweenPlaces(impl.V3{X: q(-top, 1), Y: q(0, 1), Z: q(0, 1)}, impl.V3{X: q(1-top, 1), Y: q(1, 1), Z: q(1, 1)})
	great := func(to, sign int64) impl.Joint { return jt(to, 23, sign*top, 0, 0) }
	// Its slant has the numbers 1, a by b, a by c; turned so that another of these comes first, one is no Q.
	skew := func(k int64) tetras {
		y, z := big.NewRat(10000000019, 1000000009), big.NewRat(1000000007, 10000000033)
		zero := new(big.Rat)
		c := tetra(point3{zero, zero, zero}, point3{big.NewRat(1, 1), zero, zero}, point3{zero, y, zero}, point3{zero, zero, z})
		return c.moved(func(p point3) point3 { return p.plus(whole3(k, 0, 0)) })
	}
	for _, c := range []struct {
		name string
		crew crew
		want bool
	}{
		{"up to the limit", crew{[]tetras{cube}, []impl.Joint{jt(-1, 23, top-1, 0, 0)}}, true},
		{"past the limit", crew{[]tetras{cube}, []impl.Joint{great(-1, 1)}}, false},
		{"past the limit by At", crew{[]tetras{cube}, []impl.Joint{rail(jt(-1, 23, 0, 0, top-1), 2, q(0, 1), q(1, 1), q(1, 1))}}, false},
		{"down to the limit", crew{[]tetras{cube}, []impl.Joint{rail(jt(-1, 23, 0, 1-top, 0), 1, q(-1, 1), q(1, 1), q(-1, 1))}}, true},
		{"below the limit", crew{[]tetras{cube}, []impl.Joint{rail(jt(-1, 23, 0, 1-top, 0), 1, q(-2, 1), q(1, 1), q(-2, 1))}}, false},
		{"a move and an At that are no Q together", crew{[]tetras{far}, []impl.Joint{rail(great(-1, 1), 0, q(0, 1), q(9, 1), q(5, 1))}}, true},
		{"nothing at such a place", crew{[]tetras{{}}, []impl.Joint{rail(great(-1, 1), 0, q(0, 1), q(9, 1), q(5, 1))}}, true},
		{"there and back, over places that are none", crew{[]tetras{{}, {}, cube}, []impl.Joint{great(-1, -1), great(0, -1), rail(great(1, 1), 0, q(0, 1), q(top, 1), q(top, 1))}}, true},
		{"there, and not all the way back", crew{[]tetras{{}, {}, cube}, []impl.Joint{jt(-1, 23, 0, 0, 0), great(0, -1), rail(great(1, 1), 0, q(0, 1), q(top, 1), q(top, 1))}}, false},
		{"one of two past the limit", crew{[]tetras{cube, cube}, []impl.Joint{jt(-1, 23, 0, 0, 0), great(-1, 1)}}, false},
		{"the last of five", crew{[]tetras{cube, cube, cube, cube, cube}, []impl.Joint{jt(-1, 23, 0, 0, 0), jt(0, 0, 0, 0, 0), jt(1, 7, 0, 0, 0), jt(2, 9, 0, 0, 0), great(3, 1)}}, false},
		{"denominators that are too great together", crew{[]tetras{cube}, []impl.Joint{rail(impl.Joint{To: -1, Turn: 23, Move: impl.V3{X: q(1, 1000000007), Y: q(0, 1), Z: q(0, 1)}}, 0, q(0, 1), q(1, 1), q(1, 1000000009))}}, false},
		{"such that one makes up for the other", crew{[]tetras{cube.moved(func(p point3) point3 { return p.plus(point3{big.NewRat(-1, 1000000007), new(big.Rat), new(big.Rat)}) })}, []impl.Joint{rail(impl.Joint{To: -1, Turn: 23, Move: impl.V3{X: q(1, 1000000007), Y: q(0, 1), Z: q(0, 1)}}, 0, q(0, 1), q(1, 1), q(1, 1000000009))}}, true},
		{"a slant", crew{[]tetras{skew(0)}, []impl.Joint{jt(-1, 23, 0, 0, 0)}}, true},
		{"a slant that can't be turned so", crew{[]tetras{skew(0)}, []impl.Joint{jt(-1, 5, 0, 0, 0)}}, false},
	} {
		if _, ok := checkPlaced(t, c.name, c.crew); ok != c.want {
			t.Error(c.name, "is placed:", ok)
		}
		if list, ok := impl.Explode(c.crew.assembly(), q(0, 1)); ok != c.want || !ok && len(list) > 0 {
			t.Error(c.name, "is drawn out by nothing:", list, ok)
		}
	}
}
