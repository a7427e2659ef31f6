package tests

import (
	"testing"

	"loop.example/g00022/impl"
)

// Promise 15: layers.

func checkNoLayers(t *testing.T, name any, s impl.Solid, lo, step impl.Q, n int64) {
	t.Helper()
	if list, ok := impl.Layers(s, lo, step, n); ok || len(list) != 0 {
		t.Error(name, lo, step, n, "has layers", list, ok)
	}
}

// checkLayers holds them against the slices at the heights, and tells whether there are any.
func checkLayers(t *testing.T, name any, s impl.Solid, lo, step impl.Q, n int64) bool {
	t.Helper()
	list, ok := impl.Layers(s, lo, step, n)
	var want []impl.Region
	for k := range n {
		z, fine1 := asQ(plusRat(rat(lo), timesRat(rat(step), rat(q(k, 1)))))
		_, high, fine2 := impl.SliceAt(s, z)
		if !fine1 || !fine2 {
			checkNoLayers(t, name, s, lo, step, n)
			return false
		}
		want = append(want, high)
	}
	if !ok || len(list) != len(want) {
		t.Fatal(name, lo, step, n, "has", len(list), "layers", ok)
	}
	for i, r := range list {
		if !sameLoops(r.Loops, want[i].Loops) {
			t.Fatal(name, lo, step, n, "has", r, "as layer", i, "not", want[i])
		}
	}
	return true
}

func TestLayersByHand(t *testing.T) {
	stair := skins(cubes([3]int64{}, [3]int64{1, 0, 0}, [3]int64{1, 0, 1}, [3]int64{2, 0, 1}))[0]
	tent, cube := skins(pyramid(whole3(1, 1, 2)))[0], skins(bx(0, 0, 0, 2, 2, 2))[0]
	low, high := lps(box(0, 0, 2, 1)), lps(box(1, 0, 3, 1))
	sq := lps(box(0, 0, 2, 2))
	for _, c := range []struct {
		name     string
		s        impl.Solid
		lo, step impl.Q
		want     [][][]impl.V
	}{
		{"none", stair, q(0, 1), q(1, 1), nil},
		{"one at the floor", stair, q(0, 1), q(1, 1), [][][]impl.V{low}},
		{"one at the ceiling", stair, q(2, 1), q(1, 1), [][][]impl.V{nil}},
		{"below, in and above", stair, q(-1, 1), q(1, 1), [][][]impl.V{nil, low, high, nil, nil}},
		{"fine steps", stair, q(0, 1), q(1, 3), [][][]impl.V{low, low, low, high, high, high, nil}},
		{"past by a little", stair, q(1, 1000), q(1, 1), [][][]impl.V{low, high, nil}},
		{"all below", cube, q(-20, 1), q(1, 1), [][][]impl.V{nil, nil, nil, nil, nil, nil, nil, nil, nil, nil, nil, nil}},
		{"all above", cube, q(2, 1), q(1, 2), [][][]impl.V{nil, nil, nil, nil, nil, nil, nil, nil, nil, nil, nil, nil}},
		{"twelve", cube, q(-1, 1), q(1, 4), [][][]impl.V{nil, nil, nil, nil, sq, sq, sq, sq, sq, sq, sq, sq}},
		{"a tent", tent, q(0, 1), q(1, 1), [][][]impl.V{sq, lps(halfLoop(1, 1, 3, 1, 3, 3, 1, 3)), nil}},
		{"great steps", cube, q(-top, 1), q(top, 1), [][][]impl.V{nil, sq, nil}},
		{"nothing", impl.Solid{}, q(0, 1), q(1, 1), [][][]impl.V{nil, nil}},
	} {
		n := int64(len(c.want))
		list, ok := impl.Layers(c.s, c.lo, c.step, n)
		if !ok || len(list) != len(c.want) {
			t.Fatal(c.name, list, ok)
		}
		for i, r := range list {
			if !sameLoops(r.Loops, c.want[i]) {
				t.Error(c.name, "layer", i, "is", r, "not", c.want[i])
			}
		}
		if !checkLayers(t, c.name, c.s, c.lo, c.step, n) {
			t.Error(c.name, "is refused")
		}
	}
	if impl.MaxLayers != 12 || impl.MaxFills != 400 {
		t.Error("MaxLayers or MaxFills has changed")
	}
}

func TestLayersMany(t *testing.T) {
	t.Parallel()
	d := &spots{dice(171), 1}
	good := 0
	for _, c := range solidCases() {
		s, ok := c.of.moved(aslant).skin()
		if !ok {
			continue
		}
		for range 3 {
			lo, step := d.coord(), d.coord()
			step.Num = max(step.Num, -step.Num, 1)
			if !impl.QOk(step) {
				continue
			}
			if checkLayers(t, c.name, s, lo, step, int64(d.next()%13)) {
				good++
			}
		}
	}
	if good < 50 {
		t.Error("too few have layers:", good)
	}
}

// How many there may be, and what is not looked at when there are none.
func TestLayersLimits(t *testing.T) {
	cube := skins(bx(0, 0, 0, 2, 2, 2))[0]
	for n := int64(-3); n < 16; n++ {
		list, ok := impl.Layers(cube, q(0, 1), q(1, 8), n)
		if fine := n >= 0 && n <= 12; ok != fine || fine && len(list) != int(n) || !fine && len(list) != 0 {
			t.Error(n, "layers", list, ok)
		}
	}
	for _, n := range []int64{-1 << 63, -1 << 62, 1 << 62, 1<<63 - 1, 100} {
		checkNoLayers(t, "a cube", cube, q(0, 1), q(1, 8), n)
	}
	for _, n := range []int64{0, 1, 12} {
		for _, bad := range brokenFractions() {
			checkNoLayers(t, "a broken height", cube, bad, q(1, 1), n)
			checkNoLayers(t, "a broken step", cube, q(0, 1), bad, n)
			checkNoLayers(t, "nothing, a broken step", impl.Solid{}, q(0, 1), bad, n)
		}
		for _, step := range []impl.Q{q(0, 1), q(-1, 1), q(-1, top), q(-top, 1)} {
			checkNoLayers(t, "a step that is not above 0", cube, q(0, 1), step, n)
			checkNoLayers(t, "nothing, a step that is not above 0", impl.Solid{}, q(0, 1), step, n)
		}
	}
	// Of no height there is no slice, and so none that is false.
	for _, s := range append(brokenSolids()[:40], skins(bx(0, 0, 0, 1, 2, 3))[0], impl.Solid{}) {
		if list, ok := impl.Layers(s, q(5, 1), q(1, 8), 0); !ok || len(list) != 0 {
			t.Error("no layers of", s, "are", list, ok)
		}
	}
}

func TestLayersNoHeight(t *testing.T) {
	cube, tall := skins(bx(0, 0, 0, 2, 2, 2))[0], skins(tt(0, 0, 0, 1, 0, 0, 0, 1, 0, 0, 0, top))[0]
	for _, c := range []struct {
		name     string
		s        impl.Solid
		lo, step impl.Q
		good     int64
	}{
		{"over the limit", cube, q(top-4, 1), q(1, 1), 5},
		{"over the limit at once", cube, q(top, 1), q(top, 1), 1},
		{"over the limit at the last", cube, q(top-10, 1), q(1, 1), 11},
		{"to the limit", cube, q(top-11, 1), q(1, 1), 12},
		{"too fine behind the first", cube, q(1, 3), q(1, top), 1},
		{"too fine at the fifth", cube, q(1, top), q(top/2-1, top), 4},
		{"a slice that has no place", tall, q(0, 1), q(1, 3), 1},
		{"a slice that has no place, from below", tall, q(-2, 3), q(1, 3), 3},
		{"a slice that has no place, at last", tall, q(1, 1), q(1, 10), 1},
		{"all have places", tall, q(1, 1), q(1, 1), 12},
		{"nothing has layers too", impl.Solid{}, q(top-2, 1), q(1, 1), 3},
	} {
		for n := int64(1); n <= 12; n++ {
			if got := checkLayers(t, c.name, c.s, c.lo, c.step, n); got != (n <= c.good) {
				t.Error(c.name, n, got)
			}
		}
	}
}
