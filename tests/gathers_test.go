package tests

import (
	"runtime"
	"slices"
	"sync"
	"testing"
	"time"

	"loop.example/g00022/impl"
)

// Promise 13: limits of joins, what is gathered, what overlaps, wrong inputs, workers.

// rowOf has so many parts of four, five and six faces, of 12, 16 and 24 places, beside one another from x on. Those of six
// have four planes in common, all others none.
func rowOf(t *testing.T, x int64, fours, fives, sixes int) impl.Solid {
	t.Helper()
	four, five := tt(0, 0, 0, 3, 1, 0, 1, 2, 1, 1, 1, 4), pyramid(whole3(1, 1, 3)).moved(aslant)
	var all tetras
	put := func(n int, step int64, c tetras) {
		for range n {
			k := step * int64(len(all.places))
			all = all.with(c.moved(func(p point3) point3 { return p.plus(whole3(x, k, k)) }))
			x += 20
		}
	}
	put(fours, 1, four)
	put(fives, 1, five)
	put(sixes, 0, cubes([3]int64{}))
	s, ok := all.skin()
	if !ok || len(s.Faces) != facesInRow(fours, fives, sixes) || countRims(s) != rimsInRow(fours, fives, sixes) {
		t.Fatal("no row of", fours, fives, sixes, "but", len(s.Faces), countRims(s))
	}
	return s
}

func facesInRow(fours, fives, sixes int) int {
	if sixes == 0 {
		return 4*fours + 5*fives
	}
	return 4*fours + 5*fives + 4 + 2*sixes
}

func rimsInRow(fours, fives, sixes int) int { return 12*fours + 16*fives + 24*sixes }

func TestLimitsOfJoins(t *testing.T) {
	t.Parallel()
	pit, _ := impl.MapSolid(pitted(), aff3(1, 0, 0, -90, 0, 1, 0, -90, 0, 0, 1, -90))
	around, _ := impl.Box(v3(-100, -100, -100), v3(1000, 1000, 1000))
	for _, c := range []struct {
		name        string
		a, b        impl.Solid
		faces, rims int
	}{
		{"40 faces", rowOf(t, 0, 9, 0, 0), rowOf(t, 500, 1, 0, 0), 40, 120},
		{"41 faces", rowOf(t, 0, 9, 0, 0), rowOf(t, 500, 0, 1, 0), 41, 124},
		{"160 places", rowOf(t, 0, 1, 1, 3), rowOf(t, 500, 1, 0, 2), facesInRow(2, 1, 5), 160},
		{"145 places", pit, rowOf(t, 0, 1, 0, 4), 9 + facesInRow(1, 0, 4), 37 + 108},
		{"161 places", pit, rowOf(t, 0, 1, 1, 4), 9 + facesInRow(1, 1, 4), 37 + 124},
		{"164 places", rowOf(t, 0, 0, 2, 3), rowOf(t, 500, 1, 0, 2), facesInRow(1, 2, 5), 164},
	} {
		for _, op := range []int64{impl.OpOr, impl.OpXor} {
			for range 2 {
				s, ok := impl.Join(c.a, c.b, op)
				if fine := c.faces <= 40 && c.rims <= 160; ok != fine || fine && (len(s.Faces) != c.faces || countRims(s) != c.rims) || !ok && len(s.Faces) > 0 {
					t.Error(c.name, "by", op, ok, len(s.Faces), countRims(s))
				}
				c.a, c.b = c.b, c.a
			}
		}
		if s, ok := impl.Join(c.a, c.b, impl.OpLess); !ok || !sameSolids(s, c.a) {
			t.Error(c.name, "the one without the other is", s, ok)
		}
		if s, ok := impl.Join(c.a, c.b, impl.OpAnd); !ok || len(s.Faces) > 0 || impl.Overlap(c.a, c.b) != 0 {
			t.Error(c.name, "have", s, ok, "in common")
		}
		if s, ok := impl.Join(c.a, around, impl.OpOr); !ok || !sameSolids(s, around) {
			t.Error(c.name, "with what is around", s, ok)
		}
	}
	// Hollows in a box: its 6 faces and 24 places more.
	for _, c := range []struct {
		fours, fives, sixes int
		fine                bool
	}{{6, 2, 0, true}, {5, 3, 0, false}, {2, 1, 4, true}, {3, 2, 3, false}, {7, 1, 0, true}} {
		b := rowOf(t, 0, c.fours, c.fives, c.sixes)
		s, ok := impl.Join(around, b, impl.OpLess)
		faces, rims := len(b.Faces)+6, countRims(b)+24
		if fine := faces <= 40 && rims <= 160; fine != c.fine || ok != fine || ok && (len(s.Faces) != faces || countRims(s) != rims) {
			t.Error("hollows:", faces, rims, "are told:", ok)
		}
	}
}

// bars are so many along X, or along Y, all of one height.
func bars3(n int64, alongX bool) impl.Solid {
	var parts []tetras
	for i := range n {
		lo, hi := whole3(-1, 2*i, 0), whole3(2*n, 2*i+1, 1)
		if !alongX {
			lo[0], lo[1], hi[0], hi[1] = lo[1], lo[0], hi[1], hi[0]
		}
		from, _ := lo.place()
		to, _ := hi.place()
		parts = append(parts, betweenPlaces(from, to))
	}
	s, _ := inRow(0, parts...).skin()
	return s
}

// What bars make that cross each other: from five on, a face alone has more places than a region may have.
func TestFacesOfTooManyPlaces(t *testing.T) {
	for n := range 6 {
		n++
		a, b := bars3(int64(n), true), bars3(int64(n), false)
		if !impl.SolidOk(a) || !impl.SolidOk(b) || impl.Overlap(a, b) != 1 {
			t.Fatal(n, "bars are a solid, and overlap")
		}
		// A grid has holes, ends of bars and corners between these, and on each line a side between each two bars.
		top := 4*(n-1)*(n-1) + 16*n - 4
		for op, rims := range map[int64]int{impl.OpAnd: 24 * n * n, impl.OpOr: 2*top + 16*n*(n+1) + 16*n} {
			s, ok := impl.Join(a, b, op)
			if ok != (rims <= 160) || ok && countRims(s) != rims || !ok && len(s.Faces) > 0 {
				t.Error(n, "bars by", op, ok, "have", countRims(s), "places, not", rims)
			}
		}
	}
}

func allOrders(list []impl.Solid) [][]impl.Solid {
	var all [][]impl.Solid
	for _, order := range orders(len(list)) {
		var one []impl.Solid
		for _, k := range order {
			one = append(one, list[k])
		}
		all = append(all, one)
	}
	return all
}

func skins(list ...tetras) []impl.Solid {
	var all []impl.Solid
	for _, c := range list {
		s, _ := c.skin()
		all = append(all, s)
	}
	return all
}

func TestGathers(t *testing.T) {
	t.Parallel()
	for name, list := range map[string][]tetras{
		"nothing":                 {},
		"one":                     {bx(0, 0, 0, 1, 2, 3)},
		"one with a hollow":       {cubes(less(block(3, 3, 3), [3]int64{1, 1, 1})...)},
		"the empty one":           {{}},
		"the empty one, twice":    {{}, bx(0, 0, 0, 1, 2, 3), {}},
		"one twice":               {bx(0, 0, 0, 1, 2, 3), bx(0, 0, 0, 1, 2, 3)},
		"side by side":            {bx(0, 0, 0, 1, 1, 1), bx(1, 0, 0, 2, 1, 1), bx(2, 0, 0, 3, 1, 1)},
		"all touching":            {bx(0, 0, 0, 2, 2, 2), bx(2, 2, 0, 4, 4, 2), bx(2, 0, 2, 4, 2, 4), bx(0, 2, 2, 2, 4, 4)},
		"overlapping":             {bx(0, 0, 0, 3, 3, 3), bx(1, 1, 1, 4, 4, 4), bx(2, 0, 1, 5, 2, 2), bx(-1, 2, 2, 3, 5, 3)},
		"a frame of four":         {bx(0, 0, 0, 3, 1, 1), bx(2, 0, 0, 3, 3, 1), bx(0, 2, 0, 3, 3, 1), bx(0, 0, 0, 1, 3, 1)},
		"a cube of its wedges":    {twice(wedge([3]int64{})), twice(wedge([3]int64{})).moved(func(p point3) point3 { return point3{p[1], p[0], p[2]} })},
		"tetrahedra of all kinds": {tt(0, 0, 0, 6, 1, 0, 1, 6, 1, 2, 2, 7), tt(6, 1, 0, 7, 5, 1, 8, 1, 3, 5, 0, -2), tt(2, 2, 7, 1, 1, 9, 3, 1, 9, 2, 4, 9)},
	} {
		given := skins(list...)
		all := roomsOf(given)
		in := all.within(func(p point3) bool { return slices.ContainsFunc(list, func(c tetras) bool { return c.has(p) }) })
		want, fine := all.skin(in)
		if !fine {
			t.Fatal(name, "is no solid")
		}
		for _, one := range allOrders(given) {
			if got, ok := impl.Gather(one); !ok || !sameSolids(got, want) {
				t.Error(name, "is", got, ok, "not", want)
			}
		}
	}
	if s, ok := impl.Gather(nil); !ok || len(s.Faces) > 0 {
		t.Error("of nothing", s, ok)
	}
}

func TestLimitsOfGathers(t *testing.T) {
	var row []impl.Solid
	for i := range int64(12) {
		row = append(row, skins(bx(i, 0, 0, i+1, 1, 1))...)
	}
	want, _ := impl.Box(v3(0, 0, 0), v3(12, 1, 1))
	if s, ok := impl.Gather(row); !ok || !sameSolids(s, want) {
		t.Error("12 in a row", s, ok)
	}
	for _, more := range []impl.Solid{row[0], {}, want} {
		if s, ok := impl.Gather(append(slices.Clone(row), more)); !isNoSolid(s, ok) {
			t.Error("13", s, ok)
		}
	}
	if s, ok := impl.Gather(make([]impl.Solid, 12)); !ok || len(s.Faces) > 0 {
		t.Error("12 empty ones", s, ok)
	}
	if s, ok := impl.Gather(make([]impl.Solid, 13)); !isNoSolid(s, ok) {
		t.Error("13 empty ones", s, ok)
	}
	if s, ok := impl.Gather(make([]impl.Solid, 100000)); !isNoSolid(s, ok) {
		t.Error("many empty ones", s, ok)
	}
	// All together they are the box around, but two of them have 41 faces.
	around, _ := impl.Box(v3(-100, -100, -100), v3(1000, 1000, 1000))
	one, two := rowOf(t, 0, 9, 0, 0), rowOf(t, 500, 0, 1, 0)
	for _, list := range allOrders([]impl.Solid{one, two, around}) {
		s, ok := impl.Gather(list)
		if fine := !sameSolids(list[2], around); ok != fine || ok && !sameSolids(s, around) || !ok && len(s.Faces) > 0 {
			t.Error("a step", len(list[2].Faces), ok)
		}
	}
	for name, o := range spoilt(row[0]) {
		for k := range 3 {
			if s, ok := impl.Gather(slices.Insert(slices.Clone(row[4:6]), k, o)); !isNoSolid(s, ok) {
				t.Error(name, "is gathered:", s)
			}
		}
	}
}

// Pairs of which a join is refused, for a number or for the limits, overlap or don't.
func TestOverlapsOfWhatIsRefused(t *testing.T) {
	apart, _ := impl.MapSolid(bars3(6, false), aff3(1, 0, 0, 0, 0, 1, 0, 0, 0, 0, 1, 1))
	higher, _ := impl.MapSolid(bars3(6, false), aff3(1, 0, 0, 0, 0, 1, 0, 0, 0, 0, 1, 2))
	lower, _ := impl.MapSolid(bars3(6, false), impl.Aff3{A: q(1, 1), B: q(0, 1), C: q(0, 1), D: q(0, 1), E: q(1, 1), F: q(0, 1), G: q(0, 1), H: q(0, 1), I: q(1, 1), X: q(0, 1), Y: q(0, 1), Z: q(999999, 1000000)})
	for name, c := range map[string]struct {
		b    impl.Solid
		want int64
	}{"across": {bars3(6, false), 1}, "on them": {apart, 0}, "above them": {higher, 0}, "hardly in them": {lower, 1}} {
		a := bars3(6, true)
		if _, ok := impl.Join(a, c.b, impl.OpOr); ok {
			t.Error(name, "are joined")
		}
		if got := impl.Overlap(a, c.b); got != c.want {
			t.Error(name, got, "not", c.want)
		}
	}
	// Corners of what they have in common are no V3s.
	a, b := skins(tt(0, 0, 0, 500000, 1, 7, 3, 499999, 5, 11, 13, 499979))[0], skins(tt(499957, 499943, 499927, -1, 2, 3, 17, 19, 300007, 200003, 23, 1))[0]
	if _, ok := impl.Join(a, b, impl.OpAnd); ok || !impl.SolidOk(a) || !impl.SolidOk(b) || impl.Overlap(a, b) != 1 {
		t.Error("great numbers overlap", impl.Overlap(a, b))
	}
}

// brokenSolids are not SolidOk for one number each.
func brokenSolids() []impl.Solid {
	clean := skins(bx(0, 0, 0, 1, 2, 3))[0]
	var list []impl.Solid
	for _, bad := range brokenFractions() {
		for i := range clean.Faces {
			for k := range 4 + 2*4 {
				s := copySolid(clean)
				f := &s.Faces[i]
				fields := []*impl.Q{&f.Plane.A, &f.Plane.B, &f.Plane.C, &f.Plane.D}
				for n := range f.Region.Loops[0] {
					fields = append(fields, &f.Region.Loops[0][n].X, &f.Region.Loops[0][n].Y)
				}
				*fields[k] = bad
				list = append(list, s)
			}
		}
	}
	return list
}

// checkNoJoin asks what is told of what is not SolidOk.
func checkNoJoin(t *testing.T, name any, s impl.Solid) {
	t.Helper()
	fine, _ := impl.Box(v3(0, 0, 0), v3(1, 2, 3))
	for i, other := range []impl.Solid{fine, {}, s} {
		op := ops[(i+len(s.Faces))%4]
		one, ok1 := impl.Join(s, other, op)
		two, ok2 := impl.Join(other, s, op)
		if !isNoSolid(one, ok1) || !isNoSolid(two, ok2) || impl.Overlap(s, other) != 2 || impl.Overlap(other, s) != 2 {
			t.Error(name, "is joined:", one, two, impl.Overlap(s, other), impl.Overlap(other, s))
		}
	}
	all, ok1 := impl.Gather([]impl.Solid{s})
	part, ok2 := impl.Cut(s, pl(1, 0, 0, 0))
	rest, ok3 := impl.Bevel(s, pl(1, 0, 0, 1), pl(0, 1, 0, 2), q(1, 2))
	if !isNoSolid(all, ok1) || !isNoSolid(part, ok2) || !isNoSolid(rest, ok3) {
		t.Error(name, "is gathered, cut or bevelled:", all, part, rest)
	}
}

func TestJoinsRefused(t *testing.T) {
	t.Parallel()
	a, b := skins(bx(0, 0, 0, 2, 2, 2))[0], skins(bx(1, 1, 1, 3, 3, 3))[0]
	for _, op := range []int64{0, 5, 6, -1, -2, 100, 1 << 62, -1 << 63, 1<<63 - 1} {
		for _, pair := range [][2]impl.Solid{{a, b}, {a, a}, {a, {}}, {{}, b}, {{}, {}}} {
			if s, ok := impl.Join(pair[0], pair[1], op); !isNoSolid(s, ok) {
				t.Error(op, "is an operation", s)
			}
		}
	}
	for _, s := range brokenSolids() {
		checkNoJoin(t, "a broken number", s)
	}
	for name, c := range map[string]tetras{"a box": bx(0, 0, 0, 1, 2, 3), "a hollow": cubes(less(block(3, 3, 3), [3]int64{1, 1, 1})...), "a pyramid": pyramid(whole3(1, 1, 3))} {
		s, _ := c.skin()
		for change, o := range spoilt(s) {
			checkNoJoin(t, name+" "+change, o)
		}
	}
	for _, p := range brokenPlanes() {
		checkNoJoin(t, p, impl.Solid{Faces: []impl.Face{{Plane: p, Region: a.Faces[0].Region}}})
	}
}

// The answers are the same however many workers run at once, and none runs on behind an answer.
func TestWorkersOfJoins(t *testing.T) {
	one, two := skins(cubes(less(block(3, 3, 3), [3]int64{1, 1, 1})...))[0], skins(fan())[0]
	ring := box(1, 0, 2, 1)
	call := func() []impl.Solid {
		var all []impl.Solid
		put := func(s impl.Solid, _ bool) { all = append(all, s) }
		for _, op := range ops {
			put(impl.Join(one, two, op))
		}
		put(impl.Gather([]impl.Solid{one, two, one}))
		put(impl.Cut(one, impl.Plane{A: q(1, 1), B: q(1, 2), C: q(-1, 3), D: q(2, 1)}))
		put(impl.Bevel(one, pl(1, 0, 0, 3), pl(0, 1, 0, 3), q(1, 2)))
		put(impl.Revolve(ring, []impl.Q{q(0, 1), q(1, 2), q(1, 1)}))
		if impl.Overlap(one, two) != 1 {
			t.Error("overlap")
		}
		return all
	}
	want := call()
	for _, s := range want {
		if len(s.Faces) == 0 {
			t.Fatal("an answer is empty:", want)
		}
	}
	was := runtime.NumGoroutine()
	for _, most := range []int{1, 2, 3, 16} {
		before := runtime.GOMAXPROCS(most)
		var all sync.WaitGroup
		for range 6 {
			all.Go(func() {
				for range 5 {
					if got := call(); !slices.EqualFunc(got, want, sameSolids) {
						t.Error(most, "at once tell", got, "not", want)
					}
				}
			})
		}
		all.Wait()
		runtime.GOMAXPROCS(before)
	}
	// One that has ended may still be counted for a moment.
	for range 200 {
		if runtime.NumGoroutine() <= was {
			return
		}
		time.Sleep(time.Millisecond)
	}
	t.Error(runtime.NumGoroutine(), "run on, not", was)
}
