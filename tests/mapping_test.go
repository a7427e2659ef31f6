package tests

import (
	"math/big"
	"testing"

	"loop.example/g00022/impl"
)

// Promise 12: mapped solids, and bounds.

// aff3 has whole numbers, row by row with the shift behind each row.
func aff3(n ...int64) impl.Aff3 {
	return impl.Aff3{
		A: q(n[0], 1), B: q(n[1], 1), C: q(n[2], 1), X: q(n[3], 1),
		D: q(n[4], 1), E: q(n[5], 1), F: q(n[6], 1), Y: q(n[7], 1),
		G: q(n[8], 1), H: q(n[9], 1), I: q(n[10], 1), Z: q(n[11], 1),
	}
}

// fieldsOf are the numbers of m, to be read and written.
func fieldsOf(m *impl.Aff3) []*impl.Q {
	return []*impl.Q{&m.A, &m.B, &m.C, &m.D, &m.E, &m.F, &m.G, &m.H, &m.I, &m.X, &m.Y, &m.Z}
}

func rowsOf(m impl.Aff3) [3]point3 {
	return [3]point3{point3Of(impl.V3{X: m.A, Y: m.B, Z: m.C}), point3Of(impl.V3{X: m.D, Y: m.E, Z: m.F}), point3Of(impl.V3{X: m.G, Y: m.H, Z: m.I})}
}

func det3Of(m impl.Aff3) *big.Rat {
	r := rowsOf(m)
	return rowDet(r[0], r[1], r[2])
}

func mapped3(m impl.Aff3) func(point3) point3 {
	r := rowsOf(m)
	return func(p point3) point3 {
		return point3{r[0].dot(p), r[1].dot(p), r[2].dot(p)}.plus(point3Of(impl.V3{X: m.X, Y: m.Y, Z: m.Z}))
	}
}

// inverse maps back, by Cramer's rule column for column; false where a number is no Q.
func inverse(m impl.Aff3) (impl.Aff3, bool) {
	r, det, back := rowsOf(m), det3Of(m), impl.Aff3{}
	fields, fine := fieldsOf(&back), true
	solve := func(right point3) point3 {
		var x point3
		for i := range x {
			rows := r
			for k := range rows {
				rows[k][i] = right[k]
			}
			x[i] = new(big.Rat).Quo(rowDet(rows[0], rows[1], rows[2]), det)
		}
		return x
	}
	put := func(at int, n *big.Rat) {
		f, ok := asQ(n)
		*fields[at], fine = f, fine && ok
	}
	for column := range 3 {
		unit := whole3(0, 0, 0)
		unit[column] = big.NewRat(1, 1)
		for row, n := range solve(unit) {
			put(3*row+column, n)
		}
	}
	for row, n := range solve(point3Of(impl.V3{X: m.X, Y: m.Y, Z: m.Z})) {
		put(9+row, new(big.Rat).Neg(n))
	}
	return back, fine
}

// areTold tells whether all places of a skin are V3s.
func areTold(s impl.Solid) bool {
	for _, e := range edges3(s) {
		_, ok1 := e[0].place()
		_, ok2 := e[1].place()
		if !ok1 || !ok2 {
			return false
		}
	}
	return true
}

// checkMapped holds a mapped solid against the mapped tetrahedra.
func checkMapped(t *testing.T, name any, c tetras, m impl.Aff3) bool {
	t.Helper()
	s, _ := c.skin()
	want, fine := c.moved(mapped3(m)).skin()
	fine = fine && areTold(want)
	got, ok := impl.MapSolid(s, m)
	if ok != fine || ok && !sameSolids(got, want) || !ok && len(got.Faces) > 0 {
		t.Fatal(name, "mapped by", m, "is", got, ok, "not", want, fine)
	}
	if !ok {
		return false
	}
	det := det3Of(m)
	if !impl.SolidOk(got) || volumeOf(got).Cmp(timesRat(volumeOf(s), det.Abs(det))) != 0 {
		t.Fatal(name, "mapped by", m, "is no solid, or not as great as it should be:", got)
	}
	if back, ok := inverse(m); ok {
		if again, ok := impl.MapSolid(got, back); !ok || !sameSolids(again, s) {
			t.Fatal(name, "mapped there and back by", m, "is", again, ok, "not", s)
		}
	}
	checkBounds(t, name, got)
	return true
}

// checkBounds looks at all places of all loops.
func checkBounds(t *testing.T, name any, s impl.Solid) {
	t.Helper()
	lo, hi, ok := impl.Bounds(s)
	edges := edges3(s)
	if ok != (len(edges) > 0) {
		t.Fatal(name, "has bounds", lo, hi, ok)
	}
	if !ok {
		if lo != (impl.V3{}) || hi != (impl.V3{}) {
			t.Fatal(name, "has bounds", lo, hi)
		}
		return
	}
	low, high := edges[0][0], edges[0][0]
	for _, e := range edges {
		for _, p := range e {
			for i := range p {
				if p[i].Cmp(low[i]) < 0 {
					low[i] = p[i]
				}
				if p[i].Cmp(high[i]) > 0 {
					high[i] = p[i]
				}
			}
		}
	}
	least, _ := low.place()
	most, _ := high.place()
	if lo != least || hi != most {
		t.Fatal(name, "has bounds", lo, hi, "not", least, most)
	}
}

func TestMappedByHand(t *testing.T) {
	t.Parallel()
	maps := map[string]impl.Aff3{
		"as it was":                   identity(),
		"moved":                       aff3(1, 0, 0, 5, 0, 1, 0, -7, 0, 0, 1, 9),
		"turned about Z":              aff3(0, -1, 0, 0, 1, 0, 0, 0, 0, 0, 1, 0),
		"turned about X":              aff3(1, 0, 0, 0, 0, 0, -1, 0, 0, 1, 0, 0),
		"turned about Y":              aff3(0, 0, 1, 0, 0, 1, 0, 0, -1, 0, 0, 0),
		"all three exchanged":         aff3(0, 1, 0, 0, 0, 0, 1, 0, 1, 0, 0, 0),
		"stretched":                   aff3(2, 0, 0, 0, 0, 3, 0, 0, 0, 0, 5, 0),
		"slanted":                     aff3(1, 1, 0, 0, 0, 1, 2, 0, 0, 0, 1, 0),
		"slanted another way":         aff3(1, 0, 0, 0, 3, 1, 0, 0, -2, 1, 1, 4),
		"mirrored in X":               aff3(-1, 0, 0, 0, 0, 1, 0, 0, 0, 0, 1, 0),
		"mirrored in Y":               aff3(1, 0, 0, 2, 0, -1, 0, 0, 0, 0, 1, 0),
		"mirrored in Z":               aff3(1, 0, 0, 0, 0, 1, 0, 0, 0, 0, -1, 1),
		"mirrored in a place":         aff3(-1, 0, 0, 0, 0, -1, 0, 0, 0, 0, -1, 0),
		"X and Y exchanged":           aff3(0, 1, 0, 0, 1, 0, 0, 0, 0, 0, 1, 0),
		"mirrored, slanted and moved": aff3(1, 2, 3, 4, 0, -5, 6, 7, 1, 1, 1, 8),
	}
	for name, m := range maps {
		if det3Of(m).Sign() == 0 {
			t.Fatal(name, "is flat")
		}
		for _, c := range solidCases() {
			if len(c.of.list) > 200 {
				// These take long, and have nothing that others have not.
				continue
			}
			checkMapped(t, c.name+" "+name, c.of, m)
		}
	}
}

func TestMappedMany(t *testing.T) {
	t.Parallel()
	good, bad := 0, 0
	for kind := range spotKinds {
		s := &spots{dice(80 + kind), kind}
		for n := range 60 {
			c := cubes(block(2, 1, 1)...).some(func(int) bool { return s.next()%2 == 0 })
			if n%2 == 0 {
				c = tetra(whole3(0, 0, 0), whole3(3, 1, 0), whole3(1, 2, 1), whole3(1, 1, 4))
			}
			var m impl.Aff3
			for _, f := range fieldsOf(&m) {
				*f = s.coord()
			}
			if det3Of(m).Sign() == 0 {
				solid, _ := c.skin()
				if o, ok := impl.MapSolid(solid, m); !isNoSolid(o, ok) {
					t.Fatal("flat", m, o)
				}
				continue
			}
			if _, ok := c.skin(); !ok {
				continue
			}
			if checkMapped(t, kind, c, m) {
				good++
			} else {
				bad++
			}
		}
	}
	if good < 50 || bad < 20 {
		t.Error("too few of a kind:", good, bad)
	}
}

func TestMappingsRefused(t *testing.T) {
	box, _ := cubes(block(1, 2, 3)...).skin()
	refused := func(name any, s impl.Solid, m impl.Aff3) {
		t.Helper()
		if o, ok := impl.MapSolid(s, m); !isNoSolid(o, ok) {
			t.Error(name, "is mapped to", o)
		}
	}
	for k := range fieldsOf(&impl.Aff3{}) {
		for _, bad := range brokenFractions() {
			m := identity()
			*fieldsOf(&m)[k] = bad
			refused(m, box, m)
			refused(m, impl.Solid{}, m)
		}
	}
	for name, m := range map[string]impl.Aff3{
		"all to one place":  aff3(0, 0, 0, 1, 0, 0, 0, 2, 0, 0, 0, 3),
		"all to one line":   aff3(1, 2, 3, 0, 2, 4, 6, 0, 0, 0, 0, 0),
		"all to one plane":  aff3(1, 2, 3, 0, 4, 5, 6, 0, 7, 8, 9, 0),
		"flat in X":         aff3(0, 0, 0, 0, 0, 1, 0, 0, 0, 0, 1, 0),
		"flat in Z":         aff3(1, 0, 0, 0, 0, 1, 0, 0, 0, 0, 0, 5),
		"nearly all to one": aff3(top, top, 0, 0, top, top, 0, 0, 0, 0, 1, 0),
	} {
		refused(name, box, m)
		refused(name, impl.Solid{}, m)
	}
	if o, ok := impl.MapSolid(impl.Solid{}, identity()); !ok || len(o.Faces) > 0 {
		t.Error("the empty solid is mapped to", o, ok)
	}
	// Numbers that are no Q afterwards: a place's, a plane's alone, and that of a place which all faces leave out.
	refused("too great", box, aff3(top, 0, 0, 0, 0, 1, 0, 0, 0, 0, top, 0))
	refused("too far", box, aff3(1, 0, 0, top, 0, 1, 0, 0, 0, 0, 1, 0))
	slant := aff3(top-1, 0, 0, 0, 0, 1, 0, 0, 0, 0, 1, 0)
	slant.D = q(1, 7)
	for _, p := range cubes(block(1, 2, 3)...).moved(mapped3(slant)).places {
		if _, ok := p.place(); !ok {
			t.Error("the places of the slant are fine")
		}
	}
	refused("a slant", box, slant)
	base, h := []point3{whole3(0, 0, 0), whole3(-top/2, top/2, 0), whole3(-top/2, -top/2, 0)}, whole3(-top, 0, top)
	tall := tetra(base[0], base[1], base[2], h)
	double := aff3(1, 0, 0, 0, 0, 1, 0, 0, 0, 0, 2, 0)
	if _, ok := tall.moved(mapped3(double)).skin(); !ok || checkMapped(t, "too tall", tall, double) {
		t.Error("too tall, with faces that are told, all but for one height")
	}
	if !checkMapped(t, "tall", tall, aff3(1, 0, 0, 0, 0, 1, 0, 0, 0, 0, -1, 0)) {
		t.Error("tall, mirrored")
	}
}

// The greatest solids are mapped, too.
func TestMappedMostPlaces(t *testing.T) {
	r := made(t, append(squares(2, 4), box(-8, 0, 0, 8), lp(-6, 0, -5, 1, -7, 1), lp(-3, 0, -2, 1, -4, 1))...)
	s, ok := impl.Prism(r, q(0, 1), q(1, 1))
	if !ok || countRims(s) != 160 {
		t.Fatal("not the most places", countRims(s))
	}
	m := aff3(1, 2, 3, 4, 0, -5, 6, 7, 1, 1, 1, 8)
	there, ok := impl.MapSolid(s, m)
	if !ok || countRims(there) != 160 || !impl.SolidOk(there) {
		t.Fatal("mapped", countRims(there), ok)
	}
	back, _ := inverse(m)
	if again, ok := impl.MapSolid(there, back); !ok || !sameSolids(again, s) {
		t.Error("mapped there and back", again, ok)
	}
}

// A face that was dropped along one axis is dropped along another one afterwards, told by hand.
func TestMappedFacesByHand(t *testing.T) {
	s, _ := impl.Prism(region(lp(0, 0, 4, 0, 0, 2)), q(0, 1), q(1, 1))
	o, ok := impl.MapSolid(s, aff3(0, 0, 1, 0, 1, 0, 0, 0, 0, 1, 0, 0))
	f := func(p impl.Plane, loop []impl.V) impl.Face { return impl.Face{Plane: p, Region: region(loop)} }
	want := impl.Solid{Faces: []impl.Face{
		f(pl(-1, 0, 0, 0), lp(0, 0, 4, 0, 0, 2)),
		f(pl(0, -1, 0, 0), box(0, 0, 1, 2)),
		f(pl(0, 0, -1, 0), box(0, 0, 1, 4)),
		f(pl(0, 1, 2, 4), box(0, 0, 1, 4)),
		f(pl(1, 0, 0, 1), lp(0, 0, 4, 0, 0, 2)),
	}}
	if !ok || !sameSolids(o, want) {
		t.Error("turned", o, ok, "not", want)
	}
}

func TestBoundsByHand(t *testing.T) {
	for _, c := range solidCases() {
		for _, o := range []tetras{c.of, c.of.moved(aslant)} {
			if s, ok := o.skin(); ok {
				checkBounds(t, c.name, s)
			}
		}
	}
	s, _ := impl.Hull3([]impl.V3{v3(5, 0, 1), v3(-2, 3, 0), v3(1, -9, 4), {X: q(1, 2), Y: q(1, 3), Z: q(29, 4)}})
	if lo, hi, ok := impl.Bounds(s); !ok || lo != v3(-2, -9, 0) || hi != (impl.V3{X: q(5, 1), Y: q(3, 1), Z: q(29, 4)}) {
		t.Error("bounds", lo, hi, ok)
	}
	if lo, hi, ok := impl.Bounds(impl.Solid{}); ok || lo != (impl.V3{}) || hi != (impl.V3{}) {
		t.Error("bounds of nothing", lo, hi)
	}
}
