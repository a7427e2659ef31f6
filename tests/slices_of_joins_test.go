package tests

import (
	"testing"

	"loop.example/g00022/impl"
)

// A cut is what SliceAt tells of a solid.
type cut struct {
	low, high impl.Region
	fine      bool
}

func cutAt(s impl.Solid, z impl.Q) cut {
	low, high, ok := impl.SliceAt(s, z)
	return cut{low, high, ok}
}

// with is what the operation makes of both regions of two cuts.
func (c cut) with(op int64, o cut) cut {
	low, ok1 := impl.Both(c.low, o.low, op)
	high, ok2 := impl.Both(c.high, o.high, op)
	return cut{low, high, c.fine && o.fine && ok1 && ok2}
}

// checkSlicesOfJoin tells how many slices it has seen: those of a join have to be the joins of slices.
func checkSlicesOfJoin(t *testing.T, name any, a, b impl.Solid) int {
	t.Helper()
	var joined [5]union
	all := []impl.Solid{a, b}
	for _, op := range ops {
		s, ok := impl.Join(a, b, op)
		joined[op] = union{s, ok}
		all = append(all, s)
	}
	seen := 0
	for _, z := range heightsOf(all...) {
		one, two := cutAt(a, z), cutAt(b, z)
		for _, op := range ops {
			if !joined[op].fine || !one.fine || !two.fine {
				continue
			}
			seen++
			want, got := one.with(op, two), cutAt(joined[op].Solid, z)
			if got.fine != want.fine || got.fine && (!sameLoops(got.low.Loops, want.low.Loops) || !sameLoops(got.high.Loops, want.high.Loops)) {
				t.Fatal(name, "by", op, "at", z, "is", got, "not", want)
			}
		}
	}
	return seen
}

func TestSlicesOfJoinsByHand(t *testing.T) {
	for _, c := range joinCases() {
		t.Run(c.name, func(t *testing.T) {
			t.Parallel()
			one, two := skins(c.a)[0], skins(c.b)[0]
			if seen := checkSlicesOfJoin(t, c.name, one, two); seen < 8 {
				t.Error("only", seen, "slices")
			}
			checkSlicesOfJoin(t, c.name, two, one)
			a, ok1 := c.a.moved(aslant).skin()
			b, ok2 := c.b.moved(aslant).skin()
			if ok1 && ok2 {
				checkSlicesOfJoin(t, c.name+" aslant", a, b)
			}
		})
	}
}

// Tetrahedra that have corners of each other, middles of edges or of faces for their own.
func TestSlicesOfJoinedTetrahedra(t *testing.T) {
	t.Parallel()
	d, seen := dice(161), 0
	for n := range 60 {
		size := int64(2 + n%2*7)
		a := d.anyTetra(size)
		b := d.touching(a, size)
		if isFlat(a) || isFlat(b) {
			continue
		}
		one, ok1 := a.skin()
		two, ok2 := b.skin()
		if !ok1 || !ok2 || !areTold(one) || !areTold(two) {
			continue
		}
		seen += checkSlicesOfJoin(t, n, one, two)
	}
	if seen < 600 {
		t.Error("too few slices:", seen)
	}
}

// Many that touch in every way, gathered: the slice is that of all of them.
func TestSlicesOfGatheredSolids(t *testing.T) {
	t.Parallel()
	d, pool, seen := dice(162), solidPool(), 0
	for range 25 {
		var list []impl.Solid
		for range 3 {
			list = append(list, skins(pool[d.next()%uint64(len(pool))])...)
		}
		all, ok := impl.Gather(list)
		if !ok {
			continue
		}
		for _, z := range heightsOf(list...) {
			var lows, highs []impl.Region
			for _, s := range list {
				low, high, ok := impl.SliceAt(s, z)
				if !ok {
					t.Fatal(s, "is refused at", z)
				}
				lows, highs = append(lows, low), append(highs, high)
			}
			low, ok1 := impl.All(lows)
			high, ok2 := impl.All(highs)
			got := cutAt(all, z)
			if !ok1 || !ok2 || !got.fine || !sameLoops(got.low.Loops, low.Loops) || !sameLoops(got.high.Loops, high.Loops) {
				t.Fatal(list, "gathered, at", z, "is", got, "not", low, ok1, high, ok2)
			}
			seen++
		}
	}
	if seen < 100 {
		t.Error("too few slices:", seen)
	}
}

// What is left below a height and what is left above it have at that height one of the two regions alone.
func TestSlicesOfCuts(t *testing.T) {
	t.Parallel()
	for _, c := range solidCases() {
		s, ok := c.of.moved(aslant).skin()
		if !ok {
			continue
		}
		for i, z := range heightsOf(s) {
			if i%3 != 0 {
				continue
			}
			low, ok1 := impl.Cut(s, impl.Plane{A: q(0, 1), B: q(0, 1), C: q(1, 1), D: z})
			high, ok2 := impl.Cut(s, impl.Plane{A: q(0, 1), B: q(0, 1), C: q(-1, 1), D: q(-z.Num, z.Den)})
			if !ok1 || !ok2 {
				continue
			}
			whole, below, above := cutAt(s, z), cutAt(low, z), cutAt(high, z)
			if !sameLoops(below.low.Loops, whole.low.Loops) || len(below.high.Loops) > 0 || !sameLoops(above.high.Loops, whole.high.Loops) || len(above.low.Loops) > 0 {
				t.Error(c.name, "cut at", z, "has", below, above, "not", whole)
			}
		}
	}
}
