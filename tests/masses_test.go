package tests

import (
	"math/big"
	"slices"
	"testing"

	"loop.example/g00022/impl"
)

// Promise 14: the ten masses. Here they are added up over tetrahedra that a solid is made of, each by what is integrated as it
// is at middles of edges and at corners; over boxes they are told by powers of their bounds. The program goes by faces alone.

// A field is what is integrated: a number at each place, with products of no more than two numbers of the place.
type field func(point3) *big.Rat

// overTetra takes a fifth of f at the middles of the six edges, less a twentieth of f at the corners, times the volume.
func overTetra(t [4]point3, f field) *big.Rat {
	sum := new(big.Rat)
	for i, a := range t {
		sum = minusRat(sum, timesRat(f(a), big.NewRat(1, 20)))
		for _, b := range t[:i] {
			sum = plusRat(sum, timesRat(f(middleOf(a, b)), big.NewRat(1, 5)))
		}
	}
	det := rowDet(t[1].minus(t[0]), t[2].minus(t[0]), t[3].minus(t[0]))
	return timesRat(sum, timesRat(det.Abs(det), big.NewRat(1, 6)))
}

func (c tetras) integral(f field) *big.Rat {
	sum := new(big.Rat)
	for k := range c.list {
		sum = plusRat(sum, overTetra(c.corners(k), f))
	}
	return sum
}

// masses are those of Mass, in their order, without limits.
type masses [10]*big.Rat

// pairsOfMasses tells of which two numbers of a place each is the product; the fourth one is 1.
var pairsOfMasses = [10][2]int{{3, 3}, {0, 3}, {1, 3}, {2, 3}, {0, 0}, {1, 1}, {2, 2}, {0, 1}, {1, 2}, {2, 0}}

var namesOfMasses = [10]string{"Vol", "X", "Y", "Z", "XX", "YY", "ZZ", "XY", "YZ", "ZX"}

func (c tetras) masses() masses {
	var all masses
	for i, pair := range pairsOfMasses {
		all[i] = c.integral(func(p point3) *big.Rat {
			numbers := []*big.Rat{p[0], p[1], p[2], big.NewRat(1, 1)}
			return timesRat(numbers[pair[0]], numbers[pair[1]])
		})
	}
	return all
}

func listOf(m impl.Masses) []impl.Q {
	return []impl.Q{m.Vol, m.X, m.Y, m.Z, m.XX, m.YY, m.ZZ, m.XY, m.YZ, m.ZX}
}

func massesIn(m impl.Masses) masses {
	var all masses
	for i, f := range listOf(m) {
		all[i] = rat(f)
	}
	return all
}

// told tells bad, the numbers of those that are no Qs, if there are such.
func (m masses) told() (all impl.Masses, bad []int) {
	fields := []*impl.Q{&all.Vol, &all.X, &all.Y, &all.Z, &all.XX, &all.YY, &all.ZZ, &all.XY, &all.YZ, &all.ZX}
	for i, n := range m {
		f, ok := asQ(n)
		if !ok {
			bad = append(bad, i)
		}
		*fields[i] = f
	}
	if bad != nil {
		return impl.Masses{}, bad
	}
	return all, nil
}

func (m masses) with(sign int64, o masses) masses {
	for i := range m {
		m[i] = plusRat(m[i], timesRat(o[i], big.NewRat(sign, 1)))
	}
	return m
}

func (m masses) equal(o masses) bool {
	return slices.EqualFunc(m[:], o[:], func(a, b *big.Rat) bool { return a.Cmp(b) == 0 })
}

// mapped are the masses of what is mapped: of each number of a place, which is a sum of four now, the products.
func (m masses) mapped(by impl.Aff3) masses {
	r, det, one := rowsOf(by), det3Of(by), big.NewRat(1, 1)
	shift := point3Of(impl.V3{X: by.X, Y: by.Y, Z: by.Z})
	parts := [4][4]*big.Rat{{r[0][0], r[0][1], r[0][2], shift[0]}, {r[1][0], r[1][1], r[1][2], shift[1]}, {r[2][0], r[2][1], r[2][2], shift[2]}, {new(big.Rat), new(big.Rat), new(big.Rat), one}}
	det.Abs(det)
	var moved masses
	for n, pair := range pairsOfMasses {
		moved[n] = new(big.Rat)
		for i, a := range parts[pair[0]] {
			for k, b := range parts[pair[1]] {
				moved[n] = plusRat(moved[n], timesRat(det, timesRat(m.of(i, k), timesRat(a, b))))
			}
		}
	}
	return moved
}

// of is the integral of the product of two numbers of a place.
func (m masses) of(i, k int) *big.Rat {
	at := slices.IndexFunc(pairsOfMasses[:], func(p [2]int) bool { return p == [2]int{i, k} || p == [2]int{k, i} })
	return m[at]
}

// massesOfBox goes by one number of a place after the other.
func massesOfBox(lo, hi impl.V3) masses {
	a, b := point3Of(lo), point3Of(hi)
	var powers [3][3]*big.Rat
	for i := range powers {
		low, high := big.NewRat(1, 1), big.NewRat(1, 1)
		for k := range powers[i] {
			low, high = timesRat(low, a[i]), timesRat(high, b[i])
			powers[i][k] = timesRat(minusRat(high, low), big.NewRat(1, int64(k)+1))
		}
	}
	var all masses
	for n, pair := range pairsOfMasses {
		var often [4]int
		often[pair[0]]++
		often[pair[1]]++
		all[n] = timesRat(powers[0][often[0]], timesRat(powers[1][often[1]], powers[2][often[2]]))
	}
	return all
}

// checkMass tells whether there are masses.
func checkMass(t *testing.T, name any, s impl.Solid, want masses) bool {
	t.Helper()
	told, bad := want.told()
	if got, ok := impl.Mass(s); ok != (bad == nil) || got != told {
		t.Fatal(name, "has masses", got, ok, "not", told, bad)
	}
	return bad == nil
}

func TestMassesOfBoxes(t *testing.T) {
	for _, c := range [][2]impl.V3{
		{v3(0, 0, 0), v3(1, 1, 1)}, {v3(0, 0, 0), v3(1, 2, 3)}, {v3(-1, -1, -1), v3(1, 1, 1)}, {v3(-3, -2, -1), v3(-2, 5, 0)},
		{v3(7, 8, 9), v3(10, 12, 15)}, {v3(-100, 50, -3), v3(-99, 51, 999)}, {v3(-9, -9, -9), v3(-1, -2, -3)},
		{{X: q(1, 2), Y: q(-1, 3), Z: q(2, 5)}, {X: q(7, 3), Y: q(1, 4), Z: q(11, 7)}},
		{{X: q(-1, 100), Y: q(-7, 9), Z: q(0, 1)}, {X: q(-1, 101), Y: q(-2, 3), Z: q(1, 30)}},
	} {
		want := massesOfBox(c[0], c[1])
		s, ok := impl.Box(c[0], c[1])
		if !ok || !checkMass(t, c, s, want) {
			t.Error("no masses of the box", c)
		}
		if !want.equal(betweenPlaces(c[0], c[1]).masses()) {
			t.Error("tetrahedra have not the masses of the box", c)
		}
	}
	good, bad := 0, 0
	for kind := range spotKinds {
		d := &spots{dice(200 + kind), kind}
		for range 200 {
			lo, hi := d.place3(), d.place3()
			s, ok := impl.Box(lo, hi)
			if !ok {
				continue
			}
			if checkMass(t, kind, s, massesOfBox(lo, hi)) {
				good++
			} else {
				bad++
			}
		}
	}
	if good < 30 || bad < 30 {
		t.Error("too few of a kind:", good, bad)
	}
}

func TestMassesByHand(t *testing.T) {
	whole := func(den int64, n ...int64) masses {
		var all masses
		for i := range all {
			all[i] = big.NewRat(n[i], den)
		}
		return all
	}
	prism, _ := impl.Prism(region(lp(0, 0, 3, 0, 0, 3)), q(-1, 1), q(1, 1))
	frame, _ := impl.Prism(made(t, box(0, 0, 3, 3), box(1, 1, 2, 2)), q(0, 1), q(1, 1))
	corner, _ := impl.Hull3([]impl.V3{v3(0, 0, 0), v3(1, 0, 0), v3(0, 1, 0), v3(0, 0, 1)})
	tent, _ := impl.Loft(box(-1, -1, 1, 1), q(0, 1), []impl.V{at(0, 0)}, q(3, 1))
	for _, c := range []struct {
		name string
		of   impl.Solid
		want masses
	}{
		{"nothing", impl.Solid{}, whole(1, 0, 0, 0, 0, 0, 0, 0, 0, 0, 0)},
		{"a cube", skins(bx(0, 0, 0, 1, 1, 1))[0], whole(12, 12, 6, 6, 6, 4, 4, 4, 3, 3, 3)},
		{"a cube below 0", skins(bx(-1, -1, -1, 0, 0, 0))[0], whole(12, 12, -6, -6, -6, 4, 4, 4, 3, 3, 3)},
		{"a cube where X is below 0", skins(bx(-1, 0, 0, 0, 1, 1))[0], whole(12, 12, -6, 6, 6, 4, 4, 4, -3, 3, -3)},
		{"a cube about the origin", skins(bx(-1, -1, -1, 1, 1, 1))[0], whole(3, 24, 0, 0, 0, 8, 8, 8, 0, 0, 0)},
		{"a prism of a triangle", prism, whole(4, 36, 36, 36, 0, 54, 54, 12, 27, 0, 0)},
		{"a frame", frame, whole(12, 96, 144, 144, 48, 296, 296, 32, 216, 72, 72)},
		{"a corner", corner, whole(120, 20, 5, 5, 5, 2, 2, 2, 1, 1, 1)},
		{"a tent", tent, whole(10, 40, 0, 0, 30, 8, 8, 36, 0, 0, 0)},
		{"two parts", skins(cubes([3]int64{}, [3]int64{3, 0, 0}))[0], whole(6, 12, 24, 6, 6, 76, 4, 4, 12, 3, 12)},
		{"opposite sides of a plane", skins(cubes([3]int64{}, [3]int64{2, 0, 1}))[0], whole(6, 12, 18, 6, 12, 40, 4, 16, 9, 6, 24)},
	} {
		if !checkMass(t, c.name, c.of, c.want) {
			t.Error(c.name, "has no masses")
		}
	}
}

// All solids of the stages before, as they are, aslant, and mapped in all ways, mirrored too.
func TestMassesOfSolids(t *testing.T) {
	t.Parallel()
	maps := []impl.Aff3{
		aff3(1, 0, 0, -5, 0, 1, 0, -7, 0, 0, 1, -9), aff3(0, -1, 0, 0, 1, 0, 0, 0, 0, 0, 1, 0), aff3(0, 1, 0, 0, 0, 0, 1, 0, 1, 0, 0, 0),
		aff3(-1, 0, 0, 0, 0, 1, 0, 0, 0, 0, 1, 0), aff3(1, 0, 0, 2, 0, 1, 0, 0, 0, 0, -1, 1), aff3(0, 1, 0, 0, 1, 0, 0, 0, 0, 0, 1, 0),
		aff3(1, 1, 0, 0, 0, 1, 2, 0, 0, 0, 1, 0), aff3(1, 2, 3, 4, 0, -5, 6, 7, 1, 1, 1, 8),
	}
	kinds := map[[2]int]int{}
	for i, c := range solidCases() {
		mapped := c.of.moved(mapped3(maps[i%len(maps)]))
		for _, o := range []tetras{c.of, c.of.moved(aslant), mapped} {
			s, ok := o.skin()
			if !ok {
				continue
			}
			if !checkMass(t, c.name, s, o.masses()) {
				t.Error(c.name, "has no masses")
			}
			for _, f := range s.Faces {
				out := keptBy(f.Plane)[2]
				kinds[[2]int{out, normalOf(f.Plane)[out].Sign()}]++
			}
		}
	}
	for out := range 3 {
		if kinds[[2]int{out, 1}] < 20 || kinds[[2]int{out, -1}] < 20 {
			t.Error("too few faces leave out", out, "of a sign:", kinds)
		}
	}
}

// Any of the tetrahedra of a mesh, jolted too.
func TestMassesOfMeshes(t *testing.T) {
	t.Parallel()
	d := dice(210)
	meshes := []tetras{cubes(block(2, 1, 1)...), cubes(block(2, 2, 1)...), cubes(block(2, 2, 2)...)}
	told := 0
	for n := range 90 {
		c := meshes[n%len(meshes)].some(func(int) bool { return d.next()%3 > 0 })
		if n%2 == 0 {
			c = d.jolted(c)
		}
		if s, ok := c.skin(); ok && checkMass(t, n, s, c.masses()) {
			told++
		}
	}
	if told < 50 {
		t.Error("only", told, "have masses")
	}
}

// tetraBy has corners with numbers up to a size, by denominators up to another one.
func (d *dice) tetraBy(size, den int64) tetras {
	var own [4]point3
	for i := range own {
		for k := range own[i] {
			own[i][k] = big.NewRat(d.upTo(size), 1+int64(d.next()%uint64(den)))
		}
	}
	return tetra(own[0], own[1], own[2], own[3])
}

// Tetrahedra anywhere: where numbers are great, or denominators unlike, masses are no Qs.
func TestMassesOfTetrahedra(t *testing.T) {
	t.Parallel()
	d := dice(220)
	for _, c := range []struct {
		size, den           int64
		mayGood, mayRefused bool
	}{{3, 1, true, false}, {30, 1, true, false}, {9, 3, true, false}, {7000, 1, true, true}, {9, 35, true, true}, {100000, 1, false, true}, {50, 70, false, true}} {
		good, bad := 0, 0
		for range 60 {
			of := d.tetraBy(c.size, c.den)
			if isFlat(of) {
				continue
			}
			s, ok := of.skin()
			if !ok || !areTold(s) {
				continue
			}
			if checkMass(t, c, s, of.masses()) {
				good++
			} else {
				bad++
			}
		}
		if (good > 5) != c.mayGood || (bad > 5) != c.mayRefused {
			t.Error(c, "too few of a kind:", good, bad)
		}
	}
}
