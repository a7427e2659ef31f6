package tests

import (
	"math/big"
	"testing"

	"loop.example/g00022/impl"
)

// Promise 11: planes.

func (s *spots) place3() impl.V3 { return impl.V3{X: s.coord(), Y: s.coord(), Z: s.coord()} }

// plane is one through places of the kind; of some kinds few have one in Qs, and then its numbers are of the kind.
func (s *spots) plane() impl.Plane {
	if p, ok := wantPlane(point3Of(s.place3()), point3Of(s.place3()), point3Of(s.place3())); ok {
		return p
	}
	return impl.Plane{A: q(int64(s.next()%2)*2-1, 1), B: s.coord(), C: s.coord(), D: s.coord()}
}

func turnedRound(p impl.Plane) impl.Plane {
	back := func(f impl.Q) impl.Q { return q(-f.Num, f.Den) }
	return impl.Plane{A: back(p.A), B: back(p.B), C: back(p.C), D: back(p.D)}
}

// broken3 are places with one number that is not QOk.
func broken3() []impl.V3 {
	var list []impl.V3
	for _, f := range brokenFractions() {
		list = append(list, impl.V3{X: f, Y: q(2, 1), Z: q(3, 1)}, impl.V3{X: q(1, 1), Y: f, Z: q(3, 1)}, impl.V3{X: q(1, 1), Y: q(2, 1), Z: f})
	}
	return list
}

// brokenPlanes have one number that is not QOk, or a first one that is not 1 or -1.
func brokenPlanes() []impl.Plane {
	list := []impl.Plane{
		{}, pl(0, 0, 0, 0), pl(0, 0, 0, 1), pl(0, 0, 0, -7), pl(2, 0, 0, 1), pl(-2, 0, 0, 1), pl(0, 2, 0, 1), pl(0, -3, 1, 1), pl(0, 0, 5, 1), pl(0, 0, -5, 0), pl(3, 1, 1, 1), pl(top, 1, 0, 0),
		{A: q(1, 2), B: q(1, 1), C: q(0, 1), D: q(0, 1)}, {A: q(-1, 3), B: q(1, 1), C: q(1, 1), D: q(0, 1)},
		{A: q(0, 1), B: q(1, 2), C: q(1, 1), D: q(0, 1)}, {A: q(0, 1), B: q(0, 1), C: q(-1, 2), D: q(0, 1)},
		{A: q(2, 2), B: q(0, 1), C: q(0, 1), D: q(0, 1)}, {A: q(-2, 2), B: q(0, 1), C: q(0, 1), D: q(0, 1)}, {A: q(-1, -1), B: q(0, 1), C: q(0, 1), D: q(0, 1)},
		{A: q(0, 1), B: q(2, 2), C: q(0, 1), D: q(0, 1)}, {A: q(0, 1), B: q(0, 1), C: q(2, 2), D: q(0, 1)},
	}
	for _, f := range brokenFractions() {
		list = append(list,
			impl.Plane{A: f, B: q(1, 1), C: q(1, 1), D: q(1, 1)}, impl.Plane{A: f, B: q(0, 1), C: q(0, 1), D: q(1, 1)},
			impl.Plane{A: q(1, 1), B: f, C: q(1, 1), D: q(1, 1)}, impl.Plane{A: q(0, 1), B: f, C: q(1, 1), D: q(1, 1)},
			impl.Plane{A: q(-1, 1), B: q(0, 1), C: f, D: q(1, 1)}, impl.Plane{A: q(0, 1), B: q(0, 1), C: f, D: q(1, 1)},
			impl.Plane{A: q(1, 1), B: q(1, 1), C: q(1, 1), D: f}, impl.Plane{A: q(0, 1), B: q(0, 1), C: q(-1, 1), D: f})
	}
	return list
}

func TestPlacesOfSpace(t *testing.T) {
	for _, f := range edgeFractions() {
		for _, v := range []impl.V3{{X: f, Y: q(0, 1), Z: q(0, 1)}, {X: q(0, 1), Y: f, Z: q(0, 1)}, {X: q(0, 1), Y: q(0, 1), Z: f}, {X: f, Y: f, Z: f}} {
			if !impl.V3Ok(v) {
				t.Error(v, "is a place")
			}
		}
	}
	for _, v := range append(broken3(), impl.V3{}) {
		if impl.V3Ok(v) {
			t.Error(v, "is no place")
		}
	}
}

func TestPlaneOk(t *testing.T) {
	for _, one := range []int64{1, -1} {
		for _, f := range edgeFractions() {
			for _, g := range []impl.Q{f, q(0, 1), q(-7, 2)} {
				for _, p := range []impl.Plane{
					{A: q(one, 1), B: f, C: g, D: q(5, 7)}, {A: q(one, 1), B: g, C: q(0, 1), D: f},
					{A: q(0, 1), B: q(one, 1), C: f, D: g}, {A: q(0, 1), B: q(0, 1), C: q(one, 1), D: f},
				} {
					if !impl.PlaneOk(p) || !impl.PlaneOk(turnedRound(p)) {
						t.Error(p, "is a plane")
					}
				}
			}
		}
	}
	for _, p := range brokenPlanes() {
		if impl.PlaneOk(p) {
			t.Error(p, "is no plane")
		}
	}
}

func checkPlaneOf(t *testing.T, a, b, c impl.V3) (impl.Plane, bool) {
	t.Helper()
	want, fine := wantPlane(point3Of(a), point3Of(b), point3Of(c))
	places := []impl.V3{a, b, c}
	for _, o := range orders(3) {
		// An odd order turns the plane round.
		p := want
		if fine && (o[0] > o[1]) != (o[1] > o[2]) != (o[0] > o[2]) {
			p = turnedRound(want)
		}
		got, ok := impl.PlaneOf(places[o[0]], places[o[1]], places[o[2]])
		if ok != fine || got != p || ok && !impl.PlaneOk(got) {
			t.Fatal("the plane of", places, o, "is", got, ok, "not", p, fine)
		}
		for _, v := range places {
			if ok && impl.Side(got, v) != 0 {
				t.Fatal(v, "is not on", got)
			}
		}
	}
	return want, fine
}

func TestPlaneOf(t *testing.T) {
	for _, c := range []struct {
		name    string
		a, b, c impl.V3
		want    impl.Plane
	}{
		{"across X", v3(5, 0, 0), v3(5, 1, 0), v3(5, 0, 1), pl(1, 0, 0, 5)},
		{"across X, turned", v3(5, 0, 0), v3(5, 0, 3), v3(5, 2, 0), pl(-1, 0, 0, -5)},
		{"across Y", v3(0, -2, 0), v3(0, -2, 4), v3(3, -2, 0), pl(0, 1, 0, -2)},
		{"across Z", v3(0, 0, 7), v3(9, 0, 7), v3(0, 9, 7), pl(0, 0, 1, 7)},
		{"along X", v3(0, 0, 0), v3(1, 0, 0), v3(0, -1, 1), impl.Plane{A: q(0, 1), B: q(-1, 1), C: q(-1, 1), D: q(0, 1)}},
		{"along Y", v3(1, 0, 0), v3(1, 1, 0), v3(0, 0, 2), impl.Plane{A: q(1, 1), B: q(0, 1), C: q(1, 2), D: q(1, 1)}},
		{"along Z", v3(0, 1, 0), v3(3, 0, 0), v3(0, 1, 1), impl.Plane{A: q(-1, 1), B: q(-3, 1), C: q(0, 1), D: q(-3, 1)}},
		{"aslant", v3(2, 0, 0), v3(0, 3, 0), v3(0, 0, 5), impl.Plane{A: q(1, 1), B: q(2, 3), C: q(2, 5), D: q(2, 1)}},
		{"great", v3(top, 0, 0), v3(0, top, 0), v3(0, 0, top), pl(1, 1, 1, top)},
		{"small", impl.V3{X: q(1, top), Y: q(0, 1), Z: q(0, 1)}, impl.V3{X: q(0, 1), Y: q(1, top), Z: q(0, 1)}, v3(0, 0, 1),
			impl.Plane{A: q(1, 1), B: q(1, 1), C: q(1, top), D: q(1, top)}},
	} {
		p, ok := checkPlaneOf(t, c.a, c.b, c.c)
		if got, fine := impl.PlaneOf(c.a, c.b, c.c); !ok || !fine || p != c.want || got != c.want {
			t.Error(c.name, got, fine, "not", c.want)
		}
	}
	for _, places := range [][3]impl.V3{
		{v3(0, 0, 0), v3(1, 2, 3), v3(2, 4, 6)}, {v3(0, 0, 0), v3(0, 0, 1), v3(0, 0, -5)}, {v3(1, 1, 1), v3(1, 1, 1), v3(2, 3, 4)},
		{v3(1, 1, 1), v3(1, 1, 1), v3(1, 1, 1)}, {v3(-top, top, 0), v3(top, -top, 0), v3(0, 0, 0)},
		// Numbers that are no Q: of D, of C, of B.
		{v3(top, 1, 0), v3(1, top, 0), v3(top, 1, 1)}, {v3(0, 0, 0), v3(0, 1, 0), {X: q(top-1, 1), Y: q(0, 1), Z: q(1, 7)}},
		{v3(0, 0, 0), v3(0, 0, 1), {X: q(top-1, 1), Y: q(1, 7), Z: q(0, 1)}},
	} {
		if p, ok := checkPlaneOf(t, places[0], places[1], places[2]); ok {
			t.Error(places, "have the plane", p)
		}
	}
	for kind := range spotKinds {
		s, good := &spots{dice(3 + kind), kind}, 0
		for range 300 {
			if _, ok := checkPlaneOf(t, s.place3(), s.place3(), s.place3()); ok {
				good++
			}
		}
		if good < 10 && kind < 3 {
			t.Error("only", good, "planes of kind", kind)
		}
	}
	for _, v := range broken3() {
		for k := range 3 {
			list := [3]impl.V3{v3(1, 0, 0), v3(0, 1, 0), v3(0, 0, 1)}
			list[k] = v
			if p, ok := impl.PlaneOf(list[0], list[1], list[2]); ok || p != (impl.Plane{}) {
				t.Error(list, "have the plane", p)
			}
		}
	}
}

// checkPlane asks all of a plane and a place.
func checkPlane(t *testing.T, p impl.Plane, v impl.V3) {
	t.Helper()
	o := point3Of(v)
	ahead := int64(over(p, o).Sign())
	if got, back := impl.Side(p, v), impl.Side(turnedRound(p), v); got != ahead || back != -ahead {
		t.Fatal(v, "is on side", got, back, "of", p)
	}
	want, _ := dropped(p, o).place()
	flat, ok := impl.Drop(p, v)
	if !ok || flat != want {
		t.Fatal(v, "is dropped to", flat, ok, "by", p)
	}
	if back, ok := impl.Drop(turnedRound(p), v); !ok || back != flat {
		t.Fatal(v, "is dropped to", back, "by", p, "turned")
	}
	up, fine := lifted(p, pointOf(flat)).place()
	if got, ok := impl.Lift(p, flat); ok != fine || got != up {
		t.Fatal(flat, "is lifted to", got, ok, "by", p, "not", up, fine)
	}
	if !fine {
		return
	}
	if back, ok := impl.Drop(p, up); !ok || back != flat || impl.Side(p, up) != 0 {
		t.Fatal(flat, "lifted is", up, "and dropped", back, "by", p)
	}
	if ahead == 0 && up != v {
		t.Fatal(v, "on", p, "is lifted to", up)
	}
}

func TestSidesDropsAndLifts(t *testing.T) {
	for kind := range spotKinds {
		s := &spots{dice(13 + kind), kind}
		for range 300 {
			p := s.plane()
			checkPlane(t, p, s.place3())
			if kind > 0 {
				// Planes that lie along axes, with the same numbers.
				for _, o := range []impl.Plane{{A: q(0, 1), B: q(1, 1), C: p.C, D: p.D}, {A: q(1, 1), B: p.B, C: q(0, 1), D: p.D}, {A: q(-1, 1), B: q(0, 1), C: q(0, 1), D: p.D}} {
					checkPlane(t, o, s.place3())
				}
			}
		}
	}
	great := impl.Plane{A: q(1, 1), B: q(top, 1), C: q(-top, 1), D: q(top, 1)}
	for i, v := range []impl.V3{v3(0, top, top-1), v3(1, top, top-1), v3(-1, top, top-1), v3(top, 0, 0), v3(top-1, 0, 0)} {
		checkPlane(t, great, v)
		if want := []int64{0, 1, -1, 0, -1}[i]; impl.Side(great, v) != want {
			t.Error(v, "is not on side", want)
		}
	}
}

func TestDropAndLiftByHand(t *testing.T) {
	for _, c := range []struct {
		p    impl.Plane
		v    impl.V3
		flat impl.V
		up   impl.V3
	}{
		{pl(1, 2, 2, 5), v3(1, 4, 9), at(1, 4), v3(1, 4, -2)},
		{pl(0, 0, -1, 5), v3(1, 4, 9), at(1, 4), v3(1, 4, -5)},
		{pl(1, 2, 0, 5), v3(1, 4, 9), at(1, 9), v3(1, 2, 9)},
		{pl(0, -1, 0, 5), v3(1, 4, 9), at(1, 9), v3(1, -5, 9)},
		{pl(1, 0, 0, 5), v3(1, 4, 9), at(4, 9), v3(5, 4, 9)},
		{pl(-1, 0, 0, 5), v3(-5, 4, 9), at(4, 9), v3(-5, 4, 9)},
	} {
		flat, ok1 := impl.Drop(c.p, c.v)
		up, ok2 := impl.Lift(c.p, c.flat)
		if !ok1 || !ok2 || flat != c.flat || up != c.up {
			t.Error(c.v, "is dropped to", flat, "and lifted to", up, "by", c.p)
		}
		checkPlane(t, c.p, c.v)
	}
	// What is lifted may be no place: too great, or of too great a denominator.
	for _, c := range []struct {
		p impl.Plane
		v impl.V
	}{
		{pl(1, 0, 1, 0), at(top, 0)}, {pl(1, 1, 1, 0), at(top, 1)}, {impl.Plane{A: q(1, 1), B: q(0, 1), C: q(1, top), D: q(0, 1)}, at(2, 0)},
		{impl.Plane{A: q(0, 1), B: q(1, 1), C: q(3, 1), D: q(0, 1)}, impl.V{X: q(0, 1), Y: q(1, top)}}, {pl(1, top, 0, 1), impl.V{X: q(1, 2), Y: q(0, 1)}},
	} {
		want, fine := lifted(c.p, pointOf(c.v)).place()
		if got, ok := impl.Lift(c.p, c.v); ok != fine || got != want {
			t.Error(c.v, "is lifted to", got, ok, "by", c.p, "not", want)
		}
	}
	if _, ok := impl.Lift(pl(1, 1, 1, 0), at(top, 1)); ok {
		t.Error("a height that is no Q is told")
	}
}

func TestPlanesThatAreNone(t *testing.T) {
	good, place := pl(1, 2, 3, 4), v3(1, 1, 1)
	ask := func(p impl.Plane, v impl.V3) {
		t.Helper()
		flat, ok1 := impl.Drop(p, v)
		if side := impl.Side(p, v); side != 2 || ok1 || flat != (impl.V{}) {
			t.Error("of", p, v, "is told", side, flat)
		}
	}
	for _, p := range brokenPlanes() {
		ask(p, place)
		if up, ok := impl.Lift(p, at(1, 1)); ok || up != (impl.V3{}) {
			t.Error(p, "lifts to", up)
		}
	}
	for _, v := range broken3() {
		ask(good, v)
	}
	for _, v := range brokenPlaces() {
		for _, p := range []impl.Plane{good, pl(1, 1, 0, 0), pl(1, 0, 0, 0)} {
			if up, ok := impl.Lift(p, v); ok || up != (impl.V3{}) {
				t.Error(p, "lifts", v, "to", up)
			}
		}
	}
	if up, ok := impl.Lift(pl(0, 0, 1, 4), at(5, 6)); !ok || up != v3(5, 6, 4) {
		t.Error("lift", up, ok)
	}
}

// A plane's side is told by how the plane's places and the place turn.
func TestSidesAreTurns(t *testing.T) {
	s := &spots{dice(8), 1}
	for range 300 {
		a, b, c, d := s.place3(), s.place3(), s.place3(), s.place3()
		if p, ok := impl.PlaneOf(a, b, c); ok {
			if got := impl.Side(p, d); got != int64(-turnOf(point3Of(a), point3Of(b), point3Of(c), point3Of(d))) {
				t.Fatal(d, "is on side", got, "of", a, b, c)
			}
		}
	}
	if big.NewRat(1, 2).Cmp(rat(q(1, 2))) != 0 || impl.MaxFaces != 40 || impl.MaxRims != 160 || impl.MaxHull != 14 {
		t.Error("the limits have changed")
	}
}
