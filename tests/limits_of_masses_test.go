package tests

import (
	"math/big"
	"slices"
	"testing"

	"loop.example/g00022/impl"
)

// Promise 14: masses that are no Qs, and such as are just told.

// turnedOn has X, Y, Z each on the next place, n times.
func turnedOn(c tetras, n int) tetras {
	return c.moved(func(p point3) point3 {
		for range n {
			p = point3{p[2], p[0], p[1]}
		}
		return p
	})
}

// boxAt has its middle on the X axis, and goes from there by a, b, c to all sides.
func boxAt(x, a, b, c *big.Rat) tetras {
	return bx(-1, -1, -1, 1, 1, 1).moved(func(p point3) point3 {
		return point3{plusRat(timesRat(p[0], a), x), timesRat(p[1], b), timesRat(p[2], c)}
	})
}

// shell is a cube without a lesser one in its midst.
func shell(t *testing.T, a, b *big.Rat) (impl.Solid, masses) {
	t.Helper()
	outer, inner := boxAt(new(big.Rat), a, a, a), boxAt(new(big.Rat), b, b, b)
	two := skins(outer, inner)
	s, ok := impl.Join(two[0], two[1], impl.OpLess)
	if !ok || len(s.Faces) != 12 {
		t.Fatal("no shell", s, ok)
	}
	return s, outer.masses().with(-1, inner.masses())
}

type massCase struct {
	name string
	of   impl.Solid
	want masses
	// Which of the ten is no Q, or -1.
	bad int
}

// lonelyMasses are solids of which one of the ten alone is no Q, each of them in turn.
func lonelyMasses(t *testing.T) []massCase {
	t.Helper()
	// Of the fifth powers of the two the difference can be divided by 691 four times, of their third powers not once.
	hollow, want := shell(t, big.NewRat(539853, 691), big.NewRat(82425, 691))
	list := []massCase{{"Vol", hollow, want, 0}}
	one := big.NewRat(1, 1)
	m, n := int64(100003), int64(40009)
	// With these the square of the one, and three times that of the other, are together 1.
	wide, away := big.NewRat(m*m-3*n*n, m*m+3*n*n), big.NewRat(2*m*n, m*m+3*n*n)
	along := boxAt(away, wide, one, one)
	far := boxAt(new(big.Rat), big.NewRat(1000000, 1), one, one)
	// With these the squares of the two are together 1.
	across, up := big.NewRat(m*m-n*n, m*m+n*n), big.NewRat(2*m*n, m*m+n*n)
	slant := bx(-1, -1, -1, 1, 1, 1).moved(func(p point3) point3 {
		return point3{plusRat(timesRat(across, p[0]), timesRat(up, p[1])), p[0], p[2]}
	})
	for i := range 3 {
		for k, c := range []tetras{along, far, slant} {
			c = turnedOn(c, i)
			list = append(list, massCase{namesOfMasses[1+3*k+i], skins(c)[0], c.masses(), 1 + 3*k + i})
		}
	}
	return list
}

func TestMassesThatAreNoneAlone(t *testing.T) {
	seen := map[int]bool{}
	for _, c := range lonelyMasses(t) {
		_, bad := c.want.told()
		if !slices.Equal(bad, []int{c.bad}) || !impl.SolidOk(c.of) {
			t.Error(c.name, "is not alone no Q:", bad, c.of)
		}
		checkMass(t, c.name, c.of, c.want)
		seen[c.bad] = true
	}
	if len(seen) != 10 {
		t.Error("not each of them in turn:", seen)
	}
}

func TestMassesAtTheLimit(t *testing.T) {
	r, zero := big.NewRat, new(big.Rat)
	for _, c := range []struct {
		name string
		of   tetras
		// Of the square of X: what it is, and whether it is told.
		want *big.Rat
		fine bool
	}{
		{"10^18", boxAt(zero, r(1000000, 1), r(3, 8), r(1, 1)), r(top, 1), true},
		{"a little above 10^18", boxAt(r(1000000000, 1), r(3, 1), r(1, 6), r(1, 4)), r(top+3, 1), false},
		{"a little below 10^18", boxAt(r(999999999, 1), r(3, 1), r(1, 6), r(1, 4)), r(999999999*999999999+3, 1), true},
		{"10^18 by 7", boxAt(zero, r(1000000, 1), r(3, 56), r(1, 1)), r(top, 7), true},
		{"more than 10^18 by 7", boxAt(r(1000000000, 1), r(3, 1), r(1, 42), r(1, 4)), r(top+3, 7), false},
		{"1 by 10^18", boxAt(zero, r(1, 1000000), r(3, 8), r(1, 1)), r(1, top), true},
		{"1 by more than 10^18", boxAt(zero, r(1, 1000003), r(3, 8), r(1, 1)), nil, false},
	} {
		want := c.of.masses()
		if c.want != nil && want[4].Cmp(c.want) != 0 {
			t.Error(c.name, "is", want[4], "not", c.want)
		}
		for i := range 3 {
			o := turnedOn(c.of, i)
			if ok := checkMass(t, c.name, skins(o)[0], o.masses()); ok != c.fine {
				t.Error(c.name, "is told:", ok)
			}
		}
	}
}

// A solid of the most faces and places has masses, too.
func TestMassesOfMostPlaces(t *testing.T) {
	r := made(t, append(squares(2, 4), box(-8, 0, 0, 8), lp(-6, 0, -5, 1, -7, 1), lp(-3, 0, -2, 1, -4, 1))...)
	s, ok := impl.Prism(r, q(0, 1), q(1, 1))
	if !ok || countRims(s) != 160 {
		t.Fatal("not the most places", countRims(s))
	}
	area, _ := impl.Area2(r)
	m, ok := impl.Mass(s)
	if !ok || timesRat(rat(m.Vol), big.NewRat(2, 1)).Cmp(rat(area)) != 0 || timesRat(rat(m.Z), big.NewRat(4, 1)).Cmp(rat(area)) != 0 || timesRat(rat(m.ZZ), big.NewRat(6, 1)).Cmp(rat(area)) != 0 {
		t.Error("masses", m, ok, "over", area)
	}
	full := rowOf(t, 20, 10, 0, 0)
	if m, ok := impl.Mass(full); !ok || rat(m.Vol).Cmp(volumeOf(full)) != 0 {
		t.Error("masses of 40 faces", m, ok)
	}
}

func TestMassesRefused(t *testing.T) {
	t.Parallel()
	for _, s := range brokenSolids() {
		checkNoMass(t, s, s)
	}
	for _, c := range solidCases()[1:12] {
		clean, _ := c.of.skin()
		for name, s := range spoilt(clean) {
			checkNoMass(t, c.name+" "+name, s)
		}
	}
	checkNoMass(t, "44 faces", merged(rowOf(t, 20, 10, 0, 0), rowOf(t, 900, 1, 0, 0)))
	checkNoMass(t, "168 places", rowBeyond(t))
}

// rowBeyond has too many places, and not too many faces.
func rowBeyond(t *testing.T) impl.Solid {
	t.Helper()
	s := merged(rowOf(t, 20, 0, 0, 6), rowOf(t, 300, 2, 0, 0))
	if len(s.Faces) > 40 || countRims(s) != 168 {
		t.Fatal("no such row:", len(s.Faces), countRims(s))
	}
	return s
}

// checkNoMass asks what is told of what is not SolidOk.
func checkNoMass(t *testing.T, name any, s impl.Solid) {
	t.Helper()
	m, ok1 := impl.Mass(s)
	c, ok2 := impl.Centre(s)
	i, ok3 := impl.Inertia(s, v3(1, 2, 3), v3(1, 0, 0))
	f, ok4 := impl.Facing(s, v3(1, 2, 3))
	if ok1 || ok2 || ok3 || ok4 || m != (impl.Masses{}) || c != (impl.V3{}) || i != (impl.Q{}) || f != (impl.Q{}) {
		t.Error(name, "has masses:", m, c, i, f)
	}
}
