package tests

import (
	"math/big"
	"testing"

	"loop.example/g00022/impl"
)

// Promises 12, 13 and 14: what follows of masses.

// joinedMasses are those of the four operations, in the order of ops; false where a join or its masses are refused.
func joinedMasses(a, b impl.Solid) ([4]masses, bool) {
	var all [4]masses
	for i, op := range ops {
		s, ok1 := impl.Join(a, b, op)
		m, ok2 := impl.Mass(s)
		if !ok1 || !ok2 {
			return all, false
		}
		all[i] = massesIn(m)
	}
	return all, true
}

// All ten add up as inclusion and exclusion say.
func TestMassesOfJoins(t *testing.T) {
	t.Parallel()
	told, untold := 0, 0
	for _, c := range joinCases() {
		for _, o := range [][2]tetras{{c.a, c.b}, {c.a.moved(aslant), c.b.moved(aslant)}, {c.b.moved(aslant), c.a.moved(aslant)}} {
			list := skins(o[0], o[1])
			all, ok := joinedMasses(list[0], list[1])
			if !ok {
				untold++
				continue
			}
			told++
			a, b := o[0].masses(), o[1].masses()
			and, or, less, xor := all[0], all[1], all[2], all[3]
			if !and.with(1, or).equal(a.with(1, b)) || !and.with(1, less).equal(a) || !or.with(-1, and).equal(xor) {
				t.Error(c.name, "has masses that don't add up:", all, a, b)
			}
			if c.overlap != int64(and[0].Sign()) {
				t.Error(c.name, "has in common", and[0])
			}
		}
	}
	if told < 200 || untold > 40 {
		t.Error("too few are told:", told, untold)
	}
}

// What is joined of tetrahedra of one mesh has the masses of those that are left.
func TestMassesOfJoinedMeshes(t *testing.T) {
	t.Parallel()
	d, told := dice(290), 0
	for range 40 {
		c := d.jolted(cubes(block(2, 1, 1)...))
		inA, inB := d.next(), d.next()
		has := func(in uint64, k int) bool { return in>>k&1 == 1 }
		one, ok1 := c.some(func(k int) bool { return has(inA, k) }).skin()
		two, ok2 := c.some(func(k int) bool { return has(inB, k) }).skin()
		if !ok1 || !ok2 {
			continue
		}
		for _, op := range ops {
			s, ok := impl.Join(one, two, op)
			want := c.some(func(k int) bool { return isInside(op, has(inA, k), has(inB, k)) })
			if ok && checkMass(t, op, s, want.masses()) {
				told++
			}
		}
	}
	if told < 60 {
		t.Error("only", told, "are told")
	}
}

// Gathered parts that have no inside in common have all their masses, and turned profiles those of their steps.
func TestMassesOfGathers(t *testing.T) {
	parts := []tetras{bx(0, 0, 0, 2, 2, 2), bx(2, 0, 0, 4, 2, 2), bx(2, 2, 0, 4, 4, 2), bx(4, 4, 2, 6, 6, 6), tt(0, 0, 2, 1, 0, 2, 0, 1, 2, 0, 0, 4)}
	all, want := skins(parts...), tetras{}.masses()
	for _, c := range parts {
		want = want.with(1, c.masses())
	}
	s, ok := impl.Gather(all)
	if !ok || !checkMass(t, "gathered", s, want) {
		t.Error("gathered", s, ok)
	}
	ts := fractionsOf(3, 0, 1, 2, 3)
	bend, ok1 := impl.Revolve(profileOf(5), ts)
	sum := new(big.Rat)
	for i := range ts[1:] {
		step, _ := impl.Revolve(profileOf(5), ts[i:i+2])
		m, _ := impl.Mass(step)
		sum = plusRat(sum, rat(m.Vol))
	}
	if m, ok := impl.Mass(bend); !ok || !ok1 || rat(m.Vol).Cmp(sum) != 0 || sum.Sign() <= 0 {
		t.Error("turned", m, ok, "not", sum)
	}
}

func TestMassesOfMappedSolids(t *testing.T) {
	t.Parallel()
	half := aff3(0, 0, 0, 0, 0, 0, 0, 0, 0, 0, 0, 0)
	half.B, half.D, half.I, half.Y = q(1, 2), q(-3, 4), q(2, 5), q(1, 3)
	maps := map[string]impl.Aff3{
		"moved":    aff3(1, 0, 0, 5, 0, 1, 0, -7, 0, 0, 1, 9),
		"mirrored": aff3(1, 0, 0, 2, 0, -1, 0, 0, 0, 0, 1, 0),
		"slanted":  aff3(1, 0, 0, 0, 3, 1, 0, 0, -2, 1, 1, 4),
		"both":     aff3(1, 2, 3, 4, 0, -5, 6, 7, 1, 1, 1, 8),
		"less":     half,
	}
	for name, m := range maps {
		det := det3Of(m)
		det.Abs(det)
		for _, c := range solidCases() {
			if len(c.of.list) > 100 {
				continue
			}
			s, _ := c.of.skin()
			was, ok1 := impl.Mass(s)
			moved, ok2 := impl.MapSolid(s, m)
			if !ok1 || !ok2 || !checkMass(t, c.name+" "+name, moved, massesIn(was).mapped(m)) {
				t.Fatal(c.name, name, "is refused")
			}
			is, _ := impl.Mass(moved)
			if rat(is.Vol).Cmp(timesRat(rat(was.Vol), det)) != 0 {
				t.Error(c.name, name, "has the volume", is.Vol, "of", was.Vol)
			}
			centre, ok1 := impl.Centre(s)
			to, ok2 := impl.Centre(moved)
			if ok1 != ok2 || ok1 && mapped3(m)(point3Of(centre)).cmp(point3Of(to)) != 0 {
				t.Error(c.name, name, "has its centre at", to, "and had it at", centre)
			}
		}
	}
}

// What is cut ahead and behind has together all masses of the whole.
func TestMassesOfCuts(t *testing.T) {
	t.Parallel()
	d, told := dice(300), 0
	for _, c := range solidCases()[1:] {
		for _, o := range []tetras{c.of, c.of.moved(aslant)} {
			s, ok := o.skin()
			if !ok || len(o.list) > 200 {
				continue
			}
			whole, _ := impl.Mass(s)
			for _, p := range d.planesAt(o) {
				behind, ok1 := impl.Cut(s, p)
				ahead, ok2 := impl.Cut(s, turnedRound(p))
				one, ok3 := impl.Mass(behind)
				two, ok4 := impl.Mass(ahead)
				if !ok1 || !ok2 || !ok3 || !ok4 {
					continue
				}
				told++
				if !massesIn(one).with(1, massesIn(two)).equal(massesIn(whole)) {
					t.Fatal(c.name, "cut by", p, "has", one, "and", two, "not", whole)
				}
			}
		}
	}
	if told < 150 {
		t.Error("only", told, "are told")
	}
}

// About a line through the centre it is least: about another one it is more by the volume times the square of how far it is.
func TestInertiaIsLeastAtTheCentre(t *testing.T) {
	t.Parallel()
	d := &spots{dice(310), 1}
	for _, c := range solidCases()[1:] {
		s, _ := c.of.skin()
		m, _ := impl.Mass(s)
		centre, ok := impl.Centre(s)
		if !ok {
			t.Fatal(c.name, "has no centre")
		}
		for range 4 {
			p, u := d.place3(), d.place3()
			least, ok1 := impl.Inertia(s, centre, u)
			other, ok2 := impl.Inertia(s, p, u)
			if !ok1 || !ok2 || impl.QCmp(least, other) > 0 {
				t.Fatal(c.name, "about", u, "has", least, ok1, "at the centre, and", other, ok2, "at", p)
			}
			more := timesRat(rat(m.Vol), about(point3Of(centre), point3Of(u))(point3Of(p)))
			if plusRat(rat(least), more).Cmp(rat(other)) != 0 {
				t.Fatal(c.name, "about", p, u, "has", other, "not", more, "more than", least)
			}
		}
		same, ok1 := impl.Inertia(s, v3(0, 0, 0), v3(1, 2, 3))
		if ok1 && rat(same).Cmp(inertiaBy(massesIn(m), whole3(1, 2, 3))) != 0 {
			t.Error(c.name, "has", same, "unlike its masses", m)
		}
	}
}
