package tests

import (
	"testing"

	"loop.example/g00022/impl"
)

// tower is a tetrahedron without one in it, with one in that, and so on: each has an edge with the one around it in common, by
// turns the upper one, along X, and the lower one, along Y. So each brings four corners to a slice, for only two new faces and
// eight places of faces. At the height 0 it tells the rectangles that the slices of all these are.
func tower(t *testing.T, steps int) (impl.Solid, [][]impl.V) {
	t.Helper()
	var all impl.Solid
	var loops [][]impl.V
	wide, long, up, down := int64(512), int64(512), int64(1<<18), int64(1<<19)
	for i := range steps + 1 {
		part, ok := impl.Hull3([]impl.V3{v3(-wide, 0, up), v3(wide, 0, up), v3(0, -long, -down), v3(0, long, -down)})
		if !ok {
			t.Fatal("no tetrahedron", i)
		}
		if all, ok = impl.Join(all, part, impl.OpXor); !ok {
			t.Fatal("no tower", i)
		}
		x, _ := impl.QOf(wide*down, up+down)
		y, _ := impl.QOf(long*up, up+down)
		left, low := q(-x.Num, x.Den), q(-y.Num, y.Den)
		loops = append(loops, []impl.V{{X: left, Y: low}, {X: x, Y: low}, {X: x, Y: y}, {X: left, Y: y}})
		if i%2 == 0 {
			long, down = long/2, down-(up+down)/2
		} else {
			wide, up = wide/2, up-(up+down)/2
		}
	}
	return all, loops
}

// A slice with as many places as was found for a solid: it has just MaxFaces faces.
func TestSlicesWithManyPlaces(t *testing.T) {
	for _, steps := range []int{0, 1, 2, 7, 18} {
		s, loops := tower(t, steps)
		if len(s.Faces) != 4+2*steps || countRims(s) != 12+8*steps || !impl.SolidOk(s) {
			t.Fatal(steps, "steps have", len(s.Faces), "faces", countRims(s))
		}
		want := made(t, loops...)
		low, high, ok := impl.SliceAt(s, q(0, 1))
		if !ok || !sameLoops(low.Loops, want.Loops) || !sameLoops(high.Loops, want.Loops) || countPlaces(low.Loops) != 4+4*steps {
			t.Error(steps, "steps have a slice of", countPlaces(low.Loops), low, high, ok)
		}
	}
	// A prism of 26 places has 156 of them; 25 boxes in rows would have too many for a solid.
	s, ok := impl.Prism(teeth(12), q(0, 1), q(1, 1))
	if low, high, fine := impl.SliceAt(s, q(1, 2)); !ok || !fine || !sameLoops(low.Loops, teeth(12).Loops) || !sameLoops(high.Loops, low.Loops) {
		t.Error("a prism with 26 places", ok, fine)
	}
}

// Corners of slices are where edges go through a height, and no Qs there for some heights.
func TestSlicesNoPlace(t *testing.T) {
	tall := tt(0, 0, 0, 1, 0, 0, 0, 1, 0, 0, 0, top)
	s := skins(tall)[0]
	for z, want := range map[impl.Q]bool{
		q(0, 1): true, q(1, 1): true, q(1, 2): false, q(1, 3): false, q(2, 1): true, q(1, top): false, q(top, 1): true, q(-1, 3): true, q(top-1, 1): true,
		q(top/2, 1): true, q(top/2, 3): true, q(top/4, 1): true,
	} {
		if got := checkSlice(t, "a tall one", s, tall, z); got != want {
			t.Error("a tall one at", z, got)
		}
	}
	// A corner of one region alone is a corner of a face at that height, too, and so a V: what is no V is in both.
	beside := tall.with(bx(5, 5, -3, 6, 6, 3)).with(bx(-4, -4, -1, -3, -3, 0))
	s = skins(beside)[0]
	for z, want := range map[impl.Q]bool{q(0, 1): true, q(1, 3): false, q(-1, 3): true, q(3, 1): true, q(5, 2): true, q(-3, 1): true, q(7, 2): false} {
		if got := checkSlice(t, "with others beside", s, beside, z); got != want {
			t.Error("with others beside at", z, got)
		}
	}
	// Where another one begins, the region above has more places than the one below.
	both := tall.with(tt(4, 0, 1, 5, 0, 1, 4, 1, 1, 4, 0, top/10+1))
	s = skins(both)[0]
	for z, want := range map[impl.Q]bool{q(1, 1): true, q(4, 3): false, q(2, 1): true, q(0, 1): true, q(2, 3): false} {
		if got := checkSlice(t, "two tall ones", s, both, z); got != want {
			t.Error("two tall ones at", z, got)
		}
	}
}

func checkNoSlice(t *testing.T, name any, s impl.Solid, z impl.Q) {
	t.Helper()
	if low, high, ok := impl.SliceAt(s, z); !isNoSlice(low, high, ok) {
		t.Error(name, "at", z, "is", low, high, ok)
	}
}

func TestSlicesRefused(t *testing.T) {
	t.Parallel()
	for _, s := range brokenSolids() {
		checkNoSlice(t, "a broken number", s, q(1, 1))
		checkNoLayers(t, "a broken number", s, q(0, 1), q(1, 1), 1)
	}
	for _, c := range solidCases()[:12] {
		s, _ := c.of.skin()
		for _, z := range brokenFractions() {
			checkNoSlice(t, c.name, s, z)
		}
	}
	for name, c := range map[string]tetras{"a box": bx(0, 0, 0, 1, 2, 3), "a hollow": cubes(less(block(3, 3, 3), [3]int64{1, 1, 1})...), "a pyramid": pyramid(whole3(1, 1, 3))} {
		s, _ := c.skin()
		for change, o := range spoilt(s) {
			for _, z := range []impl.Q{q(1, 2), q(0, 1), q(-9, 1), q(9, 1)} {
				checkNoSlice(t, name+" "+change, o, z)
			}
			checkNoLayers(t, name+" "+change, o, q(0, 1), q(1, 1), 1)
			checkNoLayers(t, name+" "+change, o, q(100, 1), q(1, 1), 12)
		}
	}
	for _, p := range brokenPlanes() {
		checkNoSlice(t, p, impl.Solid{Faces: []impl.Face{{Plane: p, Region: region(box(0, 0, 1, 1))}}}, q(0, 1))
	}
}
