package tests

import (
	"math/big"
	"slices"
	"testing"

	"loop.example/g00022/impl"
)

// Promise 7: ears.

// isSimple tells a loop to the left that meets itself nowhere but from edge to edge, and goes straight on nowhere.
func isSimple(loop []impl.V) bool {
	n := len(loop)
	if n < 3 {
		return false
	}
	area := new(big.Rat)
	edge := func(i int) impl.Seg { return impl.Seg{A: loop[i%n], B: loop[(i+1)%n]} }
	for i := range n {
		a, b, c := pointOf(loop[i]), pointOf(loop[(i+1)%n]), pointOf(loop[(i+2)%n])
		area = plusRat(area, a.cross(b))
		if slices.Contains(loop[:i], loop[i]) || side(a, b, c) == 0 {
			return false
		}
		for k := i + 2; k < n+i-1; k++ {
			if kind, _, _ := wantMeet(edge(i), edge(k)); kind != impl.MeetNone {
				return false
			}
		}
	}
	return area.Sign() > 0
}

func size2(a, b, c point) *big.Rat {
	area := minusRat(plusRat(a.cross(b), b.cross(c)), a.cross(c))
	return area.Abs(area)
}

// wantEars goes by areas: a place is in a triangle when it parts its area.
func wantEars(loop []impl.V) []impl.Tri {
	list, left := pointsOf(loop), []int64{}
	for i := range loop {
		left = append(left, int64(i))
	}
	var tris []impl.Tri
	for len(left) > 3 {
		n := len(left)
		for k, i := range left {
			ahead, behind := left[(k+n-1)%n], left[(k+1)%n]
			a, b, c := list[ahead], list[i], list[behind]
			holds := func(o int64) bool {
				p := list[o]
				parts := plusRat(plusRat(size2(a, b, p), size2(b, c, p)), size2(c, a, p))
				return o != ahead && o != i && o != behind && parts.Cmp(size2(a, b, c)) == 0
			}
			if side(a, b, c) > 0 && !slices.ContainsFunc(left, holds) {
				tris = append(tris, triAny(ahead, i, behind))
				left = slices.Delete(left, k, k+1)
				break
			}
		}
		if len(left) == n {
			panic("no ear")
		}
	}
	return append(tris, triAny(left[0], left[1], left[2]))
}

func checkEars(t *testing.T, loop []impl.V) bool {
	t.Helper()
	tris, ok := impl.Ears(loop)
	if fine := isSimple(loop) && len(loop) <= 30; ok != fine {
		t.Fatal("ears of", loop, tris, ok)
	}
	if !ok {
		if len(tris) != 0 {
			t.Fatal("ears of no loop", loop, tris)
		}
		return false
	}
	if want := wantEars(loop); !slices.Equal(tris, want) || len(tris) != len(loop)-2 {
		t.Fatal("ears of", loop, tris, "not", want)
	}
	checkLoopCovered(t, loop, tris)
	return true
}

// loopSides tells the ways from each place to the next.
func loopSides(n int) []impl.Pair {
	var sides []impl.Pair
	for i := range n {
		sides = append(sides, impl.Pair{A: int64(i), B: int64((i + 1) % n)})
	}
	return sides
}

// checkLoopCovered also holds the areas against each other.
func checkLoopCovered(t *testing.T, loop []impl.V, tris []impl.Tri) {
	t.Helper()
	checkBorder(t, loop, tris, loopSides(len(loop)))
	area, list := new(big.Rat), pointsOf(loop)
	for _, s := range tris {
		area = plusRat(area, size2(list[s.A], list[s.B], list[s.C]))
	}
	for i, p := range list {
		area = minusRat(area, p.cross(list[(i+1)%len(list)]))
	}
	if area.Sign() != 0 {
		t.Fatal(loop, tris, "have not one area")
	}
}

func earCases() []struct {
	name string
	loop []impl.V
	want []impl.Tri
} {
	return []struct {
		name string
		loop []impl.V
		want []impl.Tri
	}{
		{"three", lp(0, 0, 3, 0, 0, 3), []impl.Tri{tri(0, 1, 2)}},
		{"three, begun behind", lp(3, 0, 0, 3, 0, 0), []impl.Tri{tri(0, 1, 2)}},
		{"a square", box(0, 0, 2, 2), []impl.Tri{tri(0, 1, 3), tri(1, 2, 3)}},
		{"a square, begun behind", begun(box(0, 0, 2, 2), 3), []impl.Tri{tri(0, 1, 3), tri(1, 2, 3)}},
		{"five", lp(0, 0, 4, 0, 5, 3, 2, 5, -1, 3), []impl.Tri{tri(0, 1, 4), tri(1, 2, 4), tri(2, 3, 4)}},
		{"an arrow: place 2 in the triangle of 0", lp(0, 0, 4, 0, 2, 1, 2, 4), []impl.Tri{tri(0, 1, 2), tri(0, 2, 3)}},
		{"it turns right at 0", lp(1, 1, 0, 4, 0, 0, 4, 0), []impl.Tri{tri(0, 1, 2), tri(0, 2, 3)}},
		{"it turns right at 1", lp(4, 0, 1, 1, 0, 4, 0, 0), []impl.Tri{tri(0, 1, 3), tri(1, 2, 3)}},
		// The triangles of 0 and of 1 have place 3 on their edges.
		{"a place on the edge of an ear", lp(0, 0, 4, 0, 4, 4, 2, 2, 3, 5, 0, 4), []impl.Tri{tri(1, 2, 3), tri(0, 1, 3), tri(0, 3, 5), tri(3, 4, 5)}},
		{"a place in an ear", lp(0, 0, 4, 0, 4, 4, 1, 1, 3, 5, 0, 4), []impl.Tri{tri(1, 2, 3), tri(0, 1, 3), tri(0, 3, 5), tri(3, 4, 5)}},
		// When 0 is cut off, 1 lies straight on.
		{"straight on later", lp(1, -1, 2, 0, 4, 0, 2, 4, 0, 0), []impl.Tri{tri(0, 1, 4), tri(1, 2, 3), tri(1, 3, 4)}},
		{"straight on when two are cut off", lp(1, -1, 2, 0, 3, -1, 4, 0, 2, 4, 0, 0), []impl.Tri{tri(0, 1, 5), tri(1, 2, 3), tri(1, 3, 4), tri(1, 4, 5)}},
		// Here 0 turns right, as long as 1 is there.
		{"begun again at the first", lp(4, 1, 6, 0, 4, 2, 6, 4, 4, 3, 0, 2), []impl.Tri{tri(0, 1, 2), tri(0, 2, 5), tri(2, 3, 4), tri(2, 4, 5)}},
		{"a comb", lp(0, 0, 6, 0, 6, 3, 5, 1, 4, 3, 3, 1, 2, 3, 1, 1, 0, 3), []impl.Tri{
			tri(1, 2, 3), tri(0, 1, 3), tri(3, 4, 5), tri(0, 3, 5), tri(5, 6, 7), tri(0, 5, 7), tri(0, 7, 8)}},
	}
}

func TestEarsByHand(t *testing.T) {
	for _, c := range earCases() {
		if tris, ok := impl.Ears(c.loop); !ok || !slices.Equal(tris, c.want) {
			t.Error(c.name, tris, ok, "not", c.want)
		}
		for k := range c.loop {
			if !checkEars(t, begun(c.loop, k)) {
				t.Error(c.name, "is refused when it begins with", k)
			}
		}
		if checkEars(t, backward(c.loop)) {
			t.Error(c.name, "is taken when it goes round to the right")
		}
	}
}

// notPlain are loops that Ears refuses.
func notPlain() map[string][]impl.V {
	far := impl.V{X: q(top-1, top), Y: q(1, top-1)}
	return map[string][]impl.V{
		"nothing":                             nil,
		"one place":                           lp(1, 1),
		"two places":                          lp(1, 1, 3, 2),
		"three on a line":                     lp(0, 0, 1, 1, 2, 2),
		"three on a line, there and back":     lp(0, 0, 2, 2, 1, 1),
		"three, two the same":                 lp(0, 0, 2, 2, 0, 0),
		"two the same in a row":               lp(0, 0, 2, 0, 2, 0, 2, 2, 0, 2),
		"first and last the same":             lp(0, 0, 2, 0, 2, 2, 0, 2, 0, 0),
		"straight on":                         lp(0, 0, 1, 0, 2, 0, 2, 2, 0, 2),
		"straight on at the first":            lp(1, 0, 2, 0, 2, 2, 0, 2, 0, 0),
		"straight on at the last":             lp(0, 0, 2, 0, 2, 2, 0, 2, 0, 1),
		"a way there and back":                lp(0, 0, 2, 0, 2, 2, 2, 5, 2, 3, 0, 2),
		"crosses itself":                      lp(0, 0, 2, 2, 2, 0, 0, 2),
		"crosses itself in a star":            lp(0, -5, 3, 4, -5, -2, 5, -2, -3, 4),
		"crosses itself twice":                lp(0, 0, 9, 0, 9, 4, 3, -2, 0, 4),
		"crosses itself at a place of no V":   {at(0, 0), far, at(1, -1), {X: q(1, 3), Y: q(1, 1)}},
		"touches itself at a place, inside":   lp(0, 0, 4, 0, 4, 4, 2, 1, 0, 4, 1, 2, 2, 1),
		"touches itself at a place, outside":  lp(0, 0, 6, 0, 6, 6, 3, 6, 3, 5, 5, 5, 5, 1, 1, 1, 1, 5, 3, 5, 3, 6, 0, 6),
		"a ring shut at a place":              lp(0, 0, 6, 0, 6, 6, 0, 6, 0, 3, 1, 3, 1, 5, 5, 5, 5, 1, 1, 1, 1, 3, 0, 2),
		"a corner on another edge, inside":    lp(0, 0, 4, 0, 4, 4, 2, 0, 0, 4),
		"a corner on another edge, outside":   lp(0, 0, 6, 0, 6, 6, 0, 6, 0, 4, 2, 4, 2, 5, 5, 5, 5, 1, 2, 1, 1, 4, 0, 1),
		"an edge on another one":              lp(0, 0, 6, 0, 6, 6, 3, 6, 3, 0, 2, 0, 2, 6, 0, 6),
		"twice round":                         lp(0, 0, 9, 0, 9, 9, 0, 9, 1, 1, 8, 1, 8, 8, 1, 8),
		"to the right":                        backward(box(0, 0, 2, 2)),
		"to the right, three":                 lp(0, 0, 0, 2, 2, 0),
		"to the right, not with a first one":  backward(lp(4, 0, 1, 1, 0, 4, 0, 0)),
		"great, hardly crossing itself":       lp(-top, -top, top, top, top, top-1, -top, -top+1),
		"great, and a place on another edge":  lp(-top, -top, top, -top, top, top, 0, 0, -top, top, top-1, top-1),
		"great, straight on":                  lp(-top, -top, top, top, top-1, top-1, -top, top),
		"great, straight on at the beginning": lp(0, 0, top, top, -top, top, -top, -top),
	}
}

func TestLoopsWithoutEars(t *testing.T) {
	// These are their own outlines, and yet they touch themselves.
	for _, name := range []string{"a corner on another edge, outside", "a ring shut at a place"} {
		if loop := notPlain()[name]; !impl.RegionOk(region(loop)) {
			t.Error(name, "is no outline")
		}
	}
	for name, loop := range notPlain() {
		for k := range max(1, len(loop)) {
			if tris, ok := impl.Ears(begun(loop, k)); ok || len(tris) != 0 {
				t.Error(name, "is cut into", tris)
			}
		}
		if isSimple(loop) {
			t.Error(name, "is a loop as it should be")
		}
	}
	for _, v := range brokenPlaces() {
		for i := range 5 {
			loop := lp(0, 0, 4, 0, 5, 3, 2, 5, -1, 3)
			loop[i] = v
			if tris, ok := impl.Ears(loop); ok || len(tris) != 0 {
				t.Error(v, "is taken for a place", tris)
			}
		}
	}
}

// saw is a loop of n places, n even, that turns right at nearly half of them.
func saw(n int64) []impl.V {
	loop := lp(n/2, 99)
	for i := range n - 1 {
		loop = append(loop, at(i, i%2))
	}
	return loop
}

func TestMostPlacesOfLoops(t *testing.T) {
	for n := int64(28); n <= 32; n += 2 {
		if checkEars(t, saw(n)) != (n <= impl.MaxSites) {
			t.Error(n, "places")
		}
	}
	curve := func(n int64) []impl.V {
		var loop []impl.V
		for i := range n {
			loop = append(loop, at(i, i*i))
		}
		return loop
	}
	for n := int64(3); n <= 33; n++ {
		if checkEars(t, curve(n)) != (n <= impl.MaxSites) {
			t.Error(n, "places")
		}
	}
	// Round and round to the middle.
	spiral := lp(0, 0, 20, 0, 20, 20, 0, 20, 0, 4, 16, 4, 16, 16, 4, 16, 4, 8, 12, 8, 12, 12,
		10, 12, 10, 10, 6, 10, 6, 14, 14, 14, 14, 6, 2, 6, 2, 18, 18, 18, 18, 2, 0, 2)
	if !checkEars(t, spiral) || !checkEars(t, begun(spiral, 5)) || !checkEars(t, begun(spiral, 13)) {
		t.Error("the spiral is refused")
	}
}

// blob puts triangles together, each along an edge of what is there, as long as that stays a loop as it should be.
func (s *spots) blob(n int) []impl.V {
	loop := []impl.V{s.place(), s.place(), s.place()}
	for !isSimple(loop) {
		loop = []impl.V{s.place(), s.place(), s.place()}
	}
	for range 4 * n {
		if more := slices.Insert(slices.Clone(loop), int(s.next()%uint64(len(loop)+1)), s.place()); len(loop) < n && isSimple(more) {
			loop = more
		}
	}
	return begun(loop, int(s.next()%uint64(len(loop))))
}

func TestEarsMany(t *testing.T) {
	t.Parallel()
	cut, refused := 0, 0
	for kind := range spotKinds {
		s := &spots{dice(720 + kind), kind}
		for range []int{30, 20, 10, 8, 8}[kind] {
			if !checkEars(t, s.blob([]int{12, 12, 8, 8, 8}[kind])) {
				t.Fatal("a loop as it should be is refused")
			}
		}
		for range []int{800, 200, 200, 100, 100}[kind] {
			var loop []impl.V
			for range 3 + s.next()%4 {
				loop = append(loop, s.place())
			}
			if checkEars(t, loop) {
				cut++
			} else {
				refused++
			}
		}
	}
	if cut < 100 || refused < 500 {
		t.Error("too few of a kind", cut, refused)
	}
}
