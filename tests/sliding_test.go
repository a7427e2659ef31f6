package tests

import (
	"math"
	"math/big"
	"slices"
	"testing"

	"loop.example/g00022/impl"
)

// Promise 20: what is an assembly, and assemblies that are slid, tried and drawn out.

func copyAssembly(a impl.Assembly) impl.Assembly {
	var parts []impl.Solid
	for _, s := range a.Parts {
		parts = append(parts, copySolid(s))
	}
	return impl.Assembly{Parts: parts, Joints: slices.Clone(a.Joints)}
}

func sameAssemblies(a, b impl.Assembly) bool {
	return slices.EqualFunc(a.Parts, b.Parts, sameSolids) && slices.Equal(a.Joints, b.Joints)
}

func isNoAssembly(a impl.Assembly) bool { return len(a.Parts)+len(a.Joints) == 0 }

// checkNoAssembly asks of what is not AsmOk, and of all functions that want it to be.
func checkNoAssembly(t *testing.T, name any, a impl.Assembly) {
	t.Helper()
	list, ok1 := impl.Placed(a)
	pairs, ok2 := impl.Clashes(a)
	out, ok3 := impl.Explode(a, q(0, 1))
	if impl.AsmOk(a) || ok1 || ok2 || ok3 || len(list)+len(pairs)+len(out) > 0 {
		t.Error(name, "is no assembly, but is told", list, pairs, out, ok1, ok2, ok3)
	}
	for i := range int64(2) {
		slid, ok1 := impl.Slide(a, i, q(0, 1))
		tries, ok2 := impl.Tries(a, i, 1)
		if ok1 || ok2 || !isNoAssembly(slid) || len(tries) > 0 {
			t.Error(name, "is no assembly, but is slid", slid, tries, ok1, ok2)
		}
	}
}

// three are a box, one that hangs on it, and one that hangs on that.
func three() impl.Assembly {
	return crew{[]tetras{bx(0, 0, 0, 1, 2, 3), bx(0, 0, 0, 2, 2, 2), tt(0, 0, 0, 3, 0, 0, 0, 3, 0, 0, 0, 3)}, []impl.Joint{
		rail(jt(-1, 23, 0, 0, 0), 0, q(-2, 1), q(2, 1), q(0, 1)),
		rail(jt(0, 23, 5, 0, 0), 1, q(-4, 1), q(4, 1), q(1, 2)),
		rail(jt(1, 20, 0, 5, 0), 2, q(0, 1), q(9, 1), q(3, 1)),
	}}.assembly()
}

func TestAssembliesByHand(t *testing.T) {
	box := skins(bx(0, 0, 0, 1, 1, 1))[0]
	spoiltBox := copySolid(box)
	spoiltBox.Faces = spoiltBox.Faces[1:]
	all := func(n int) impl.Assembly {
		return impl.Assembly{Parts: slices.Repeat([]impl.Solid{box}, n), Joints: slices.Repeat([]impl.Joint{jt(-1, 23, 0, 0, 0)}, n)}
	}
	with := func(i int, change func(*impl.Joint)) impl.Assembly {
		a := three()
		change(&a.Joints[i])
		return a
	}
	to := func(i int, to int64) impl.Assembly { return with(i, func(j *impl.Joint) { j.To = to }) }
	turn := func(turn int64) impl.Assembly { return with(1, func(j *impl.Joint) { j.Turn = turn }) }
	axis := func(axis int64) impl.Assembly { return with(2, func(j *impl.Joint) { j.Axis = axis }) }
	range3 := func(lo, hi, at impl.Q) impl.Assembly {
		return with(1, func(j *impl.Joint) { j.Lo, j.Hi, j.At = lo, hi, at })
	}
	part := func(s impl.Solid) impl.Assembly {
		a := three()
		a.Parts[1] = s
		return a
	}
	fewer, more := three(), three()
	fewer.Joints, more.Joints = fewer.Joints[:2], append(more.Joints, jt(-1, 23, 0, 0, 0))
	for _, c := range []struct {
		name string
		a    impl.Assembly
		want bool
	}{
		{"nothing", impl.Assembly{}, true}, {"three", three(), true}, {"as many as can be", all(5), true}, {"one more", all(6), false},
		{"fewer joints", fewer, false}, {"more joints", more, false}, {"a joint alone", impl.Assembly{Joints: []impl.Joint{jt(-1, 23, 0, 0, 0)}}, false},
		{"the first to -2", to(0, -2), false}, {"the first to itself", to(0, 0), false}, {"the first to the second", to(0, 1), false},
		{"the last to -2", to(2, -2), false}, {"the last to nothing", to(2, -1), true}, {"the last to the first", to(2, 0), true}, {"the last to the one ahead", to(2, 1), true},
		{"the last to itself", to(2, 2), false}, {"the last to none", to(2, 3), false}, {"to the least number", to(2, math.MinInt64), false}, {"to the greatest number", to(2, math.MaxInt64), false},
		{"turn -1", turn(-1), false}, {"turn 0", turn(0), true}, {"turn 23", turn(23), true}, {"turn 24", turn(24), false}, {"turn of the least number", turn(math.MinInt64), false}, {"turn of the greatest number", turn(math.MaxInt64), false},
		{"axis -1", axis(-1), false}, {"axis 0", axis(0), true}, {"axis 1", axis(1), true}, {"axis 2", axis(2), true}, {"axis 3", axis(3), false}, {"axis of the greatest number", axis(math.MaxInt64), false},
		{"at Lo", range3(q(-4, 1), q(4, 1), q(-4, 1)), true}, {"at Hi", range3(q(-4, 1), q(4, 1), q(4, 1)), true}, {"below Lo", range3(q(-4, 1), q(4, 1), q(-4000001, 1000000)), false},
		{"above Hi", range3(q(-4, 1), q(4, 1), q(4000001, 1000000)), false}, {"all the same", range3(q(1, 3), q(1, 3), q(1, 3)), true}, {"Lo above Hi", range3(q(1, 1), q(-1, 1), q(0, 1)), false},
		{"from end to end", range3(q(-top, 1), q(top, 1), q(0, 1)), true},
		{"an empty part", part(impl.Solid{}), true}, {"a part that is none", part(spoiltBox), false}, {"a part that lacks all numbers", part(impl.Solid{Faces: make([]impl.Face, 1)}), false},
	} {
		if got := impl.AsmOk(c.a); got != c.want {
			t.Error(c.name, "is an assembly:", got)
		}
		if !c.want {
			checkNoAssembly(t, c.name, c.a)
		}
	}
}

// fieldsOfJoint are all fractions of a joint.
func fieldsOfJoint(j *impl.Joint) []*impl.Q {
	return []*impl.Q{&j.Move.X, &j.Move.Y, &j.Move.Z, &j.Lo, &j.Hi, &j.At}
}

func TestBrokenAssemblies(t *testing.T) {
	t.Parallel()
	for _, bad := range brokenFractions() {
		for i := range 3 {
			for k := range 6 {
				a := three()
				*fieldsOfJoint(&a.Joints[i])[k] = bad
				checkNoAssembly(t, []any{"joint", i, "number", k, bad}, a)
			}
		}
		a := three()
		slid, ok1 := impl.Slide(a, 0, bad)
		list, ok2 := impl.Explode(a, bad)
		if ok1 || ok2 || !isNoAssembly(slid) || len(list) > 0 {
			t.Error("at", bad, "is", slid, list, ok1, ok2)
		}
	}
	for i, s := range brokenSolids() {
		if i%5 == 0 {
			a := three()
			a.Parts[i%3] = s
			checkNoAssembly(t, i, a)
		}
	}
	for name, s := range spoilt(three().Parts[2]) {
		a := three()
		a.Parts[2] = s
		checkNoAssembly(t, name, a)
	}
}

func TestSlidesByHand(t *testing.T) {
	a := three()
	for _, c := range []struct {
		name string
		i    int64
		at   impl.Q
		want bool
	}{
		{"at Lo", 0, q(-2, 1), true}, {"at Hi", 0, q(2, 1), true}, {"between", 0, q(1, 3), true}, {"where it is", 0, q(0, 1), true},
		{"below", 0, q(-2000001, 1000000), false}, {"above", 0, q(2000001, 1000000), false}, {"far", 0, q(top, 1), false},
		{"the one in the middle", 1, q(-4, 1), true}, {"the last one", 2, q(9, 1), true}, {"the last one, below", 2, q(-1, 1), false},
		{"-1", -1, q(0, 1), false}, {"past the last", 3, q(0, 1), false}, {"the least number", math.MinInt64, q(0, 1), false}, {"the greatest number", math.MaxInt64, q(0, 1), false},
	} {
		want := copyAssembly(a)
		if c.want {
			want.Joints[c.i].At = c.at
		} else {
			want = impl.Assembly{}
		}
		got, ok := impl.Slide(a, c.i, c.at)
		if ok != c.want || !sameAssemblies(got, want) || ok && !impl.AsmOk(got) {
			t.Error(c.name, "is slid to", got, ok)
		}
	}
	if _, ok := impl.Slide(impl.Assembly{}, 0, q(0, 1)); ok {
		t.Error("there is nothing to slide")
	}
	// What hangs on a joint goes along with it, and nothing else does.
	was, _ := impl.Placed(a)
	slid, _ := impl.Slide(a, 1, q(7, 2))
	is, ok := impl.Placed(slid)
	if !ok || !sameSolids(is[0], was[0]) {
		t.Fatal("what is slid is", is, ok)
	}
	for i := 1; i < 3; i++ {
		want, _ := impl.MapSolid(was[i], aff3(1, 0, 0, 0, 0, 1, 0, 3, 0, 0, 1, 0))
		if !sameSolids(is[i], want) {
			t.Error("part", i, "goes to", is[i], "not", want)
		}
	}
}

// wantTries asks for the clashes at each step by the tetrahedra.
func (c crew) wantTries(i, n int64) ([]int64, bool) {
	var list []int64
	for k := range n + 1 {
		joints := slices.Clone(c.joints)
		lo, hi := rat(joints[i].Lo), rat(joints[i].Hi)
		at, ok := asQ(plusRat(lo, timesRat(minusRat(hi, lo), big.NewRat(k, n))))
		joints[i].At = at
		step := crew{c.parts, joints}
		if !ok {
			return nil, false
		}
		if _, ok := step.wantPlaced(); !ok {
			return nil, false
		}
		if len(step.wantClashes()) > 0 {
			list = append(list, k)
		}
	}
	return list, true
}

func TestTriesByHand(t *testing.T) {
	cube := bx(0, 0, 0, 1, 1, 1)
	at := func(x int64) impl.Joint { return jt(-1, 23, x, 0, 0) }
	slow := func(lo, hi, at impl.Q) impl.Joint { return rail(jt(-1, 23, 0, 0, 0), 0, lo, hi, at) }
	high := betweenPlaces(v3(top-2, 0, 0), v3(top-1, 1, 1))
	for _, c := range []struct {
		name string
		crew crew
		i, n int64
		want []int64
		fine bool
	}{
		{"in the middle alone", crew{[]tetras{cube, cube}, []impl.Joint{at(0), slider(-2, 2, 0)}}, 1, 4, codes(2), true},
		{"in the middle alone, finer", crew{[]tetras{cube, cube}, []impl.Joint{at(0), slider(-2, 2, 0)}}, 1, 8, codes(3, 4, 5), true},
		{"too coarse to see it", crew{[]tetras{cube, cube}, []impl.Joint{at(0), slider(-2, 2, 0)}}, 1, 1, nil, true},
		{"at the ends alone", crew{[]tetras{cube, cube, cube}, []impl.Joint{at(-2), at(2), slider(-2, 2, 2)}}, 2, 4, codes(0, 4), true},
		{"at the ends, in one step", crew{[]tetras{cube, cube, cube}, []impl.Joint{at(-2), at(2), slider(-2, 2, 2)}}, 2, 1, codes(0, 1), true},
		{"nowhere", crew{[]tetras{cube, cube}, []impl.Joint{rail(jt(-1, 23, 0, 1, 0), 0, q(0, 1), q(0, 1), q(0, 1)), slider(-2, 2, 0)}}, 1, 8, nil, true},
		{"all along", crew{[]tetras{cube, bx(-9, 0, 0, 9, 1, 1)}, []impl.Joint{slider(-2, 2, 1), at(0)}}, 0, 3, codes(0, 1, 2, 3), true},
		{"two others", crew{[]tetras{cube, cube, cube}, []impl.Joint{at(0), slider(5, 9, 5), at(0)}}, 1, 2, codes(0, 1, 2), true},
		{"with one that hangs on it", crew{[]tetras{cube, cube, cube}, []impl.Joint{slider(0, 4, 4), jt(0, 23, 5, 0, 0), at(7)}}, 0, 4, codes(2), true},
		{"with one that hangs on that", crew{[]tetras{{}, {}, cube, cube}, []impl.Joint{slider(0, 4, 0), jt(0, 0, 0, 0, 0), jt(1, 0, 3, 0, 0), at(-1)}}, 0, 4, codes(2), true},
		{"turned with what it hangs on", crew{[]tetras{{}, cube, cube}, []impl.Joint{jt(-1, 0, 0, 0, 0), rail(jt(0, 0, 0, 0, 0), 0, q(0, 1), q(4, 1), q(0, 1)), at(-3)}}, 1, 4, codes(3), true},
		{"Lo and Hi the same, with a clash", crew{[]tetras{cube, cube}, []impl.Joint{at(0), slow(q(1, 2), q(1, 2), q(1, 2))}}, 1, 3, codes(0, 1, 2, 3), true},
		{"Lo and Hi the same, without", crew{[]tetras{cube, cube}, []impl.Joint{at(0), slow(q(1, 1), q(1, 1), q(1, 1))}}, 1, 8, nil, true},
		{"one part", crew{[]tetras{cube}, []impl.Joint{slider(0, 1, 0)}}, 0, 2, nil, true},
		{"thirds", crew{[]tetras{cube, cube}, []impl.Joint{at(0), slider(0, 2, 0)}}, 1, 3, codes(0, 1), true},
		{"an At that is no Q", crew{[]tetras{cube}, []impl.Joint{slow(q(0, 1), q(1, top), q(0, 1))}}, 0, 2, nil, false},
		{"the same in one step", crew{[]tetras{{}}, []impl.Joint{slow(q(0, 1), q(1, top), q(0, 1))}}, 0, 1, nil, true},
		{"an At that is no Q, of nothing", crew{[]tetras{{}}, []impl.Joint{slow(q(0, 1), q(1, top), q(0, 1))}}, 0, 2, nil, false},
		{"a way that is no Q", crew{[]tetras{{}}, []impl.Joint{slow(q(-top, 1), q(top, 1), q(0, 1))}}, 0, 2, nil, true},
		{"an end at which it is no solid", crew{[]tetras{high}, []impl.Joint{slider(0, 2, 0)}}, 0, 1, nil, false},
		{"a step at which it is no solid", crew{[]tetras{high}, []impl.Joint{slider(0, 1, 0)}}, 0, 2, nil, false},
		{"past that step", crew{[]tetras{high}, []impl.Joint{slider(0, 1, 0)}}, 0, 1, nil, true},
		{"one that is no solid, whatever slides", crew{[]tetras{high, cube}, []impl.Joint{slider(2, 2, 2), slider(0, 1, 0)}}, 1, 1, nil, false},
	} {
		want, fine := c.crew.wantTries(c.i, c.n)
		got, ok := impl.Tries(c.crew.assembly(), c.i, c.n)
		if ok != c.fine || fine != c.fine || !slices.Equal(got, c.want) || !slices.Equal(want, c.want) {
			t.Error(c.name, "clashes at", got, ok, "not", c.want, c.fine, "and by tetrahedra", want, fine)
		}
	}
}

func TestTriesThatAreNone(t *testing.T) {
	a := three()
	for _, n := range []int64{math.MinInt64, -1, 0, 9, math.MaxInt64} {
		if got, ok := impl.Tries(a, 0, n); ok || len(got) > 0 {
			t.Error(n, "tries tell", got, ok)
		}
	}
	for _, i := range []int64{math.MinInt64, -1, 3, math.MaxInt64} {
		if got, ok := impl.Tries(a, i, 1); ok || len(got) > 0 {
			t.Error("there is no joint", i, "but it tells", got, ok)
		}
	}
	for _, n := range []int64{1, 8} {
		if _, ok := impl.Tries(a, 2, n); !ok {
			t.Error(n, "tries are refused")
		}
	}
	if got, ok := impl.Tries(impl.Assembly{}, 0, 1); ok || len(got) > 0 {
		t.Error("there is nothing to slide, but it tells", got, ok)
	}
}

func TestTriesMany(t *testing.T) {
	t.Parallel()
	d, held := dice(203), 0
	pool := []tetras{bx(0, 0, 0, 1, 1, 1), bx(0, 0, 0, 3, 1, 1), tt(0, 0, 0, 2, 0, 0, 0, 2, 0, 0, 0, 2), tt(0, 0, 0, 3, 1, 0, 1, 3, 0, 1, 1, 3), cubes([3]int64{}, [3]int64{1, 1, 0})}
	for n := range 40 {
		var c crew
		for i := range int64(2 + n%4) {
			c.parts = append(c.parts, pool[d.next()%uint64(len(pool))])
			c.joints = append(c.joints, rail(jt(int64(d.next()%uint64(i+1))-1, int64(d.next()%24), d.upTo(3), d.upTo(3), d.upTo(3)), int64(d.next()%3), q(-3, 1), q(3, 1), q(d.upTo(3), 1)))
		}
		i, steps := int64(d.next()%uint64(len(c.parts))), 1+int64(d.next()%8)
		want, fine := c.wantTries(i, steps)
		got, ok := impl.Tries(c.assembly(), i, steps)
		if ok != fine || !slices.Equal(got, want) {
			t.Fatal(c.joints, "clashes, with joint", i, "at", got, ok, "not", want, fine)
		}
		if len(want) > 0 && len(want) <= int(steps) {
			held++
		}
	}
	if held < 5 {
		t.Error("only", held, "clash at some steps and not at others")
	}
}

func (c crew) wantExploded(k impl.Q) ([]impl.Solid, bool) {
	joints := slices.Clone(c.joints)
	for i, j := range joints {
		if j.To < 0 {
			continue
		}
		at, ok := asQ(plusRat(rat(j.At), rat(k)))
		if !ok {
			return nil, false
		}
		joints[i].At = at
	}
	return crew{c.parts, joints}.wantPlaced()
}

func TestExplodeByHand(t *testing.T) {
	cube := bx(0, 0, 0, 1, 1, 1)
	chain := crew{[]tetras{cube, cube, cube}, []impl.Joint{slider(-1, 1, 1), rail(jt(0, 23, 0, 0, 0), 1, q(0, 1), q(1, 1), q(0, 1)), rail(jt(1, 16, 0, 0, 0), 0, q(0, 1), q(1, 1), q(1, 1))}}
	star := crew{[]tetras{cube, cube, cube}, []impl.Joint{slider(0, 0, 0), jt(0, 23, 0, 0, 0), jt(-1, 23, 0, 0, 0)}}
	held := crew{[]tetras{{}, cube}, []impl.Joint{slider(0, 0, 0), rail(jt(0, 23, 0, 0, 0), 0, q(0, 1), q(top, 1), q(top-1, 1))}}
	free := crew{[]tetras{cube}, []impl.Joint{slider(0, top, top-1)}}
	none := crew{[]tetras{{}, {}}, []impl.Joint{jt(-1, 23, 0, 0, 0), rail(jt(0, 23, 0, 0, 0), 0, q(0, 1), q(top, 1), q(top, 1))}}
	for _, c := range []struct {
		name string
		crew crew
		k    impl.Q
		fine bool
		lows []impl.V3
	}{
		{"nothing", crew{}, q(5, 1), true, nil},
		{"by nothing", chain, q(0, 1), true, []impl.V3{v3(1, 0, 0), v3(1, 0, 0), v3(2, -1, 0)}},
		{"by 3", chain, q(3, 1), true, []impl.V3{v3(1, 0, 0), v3(1, 3, 0), v3(5, 2, 0)}},
		{"far past Hi", chain, q(1000000, 1), true, []impl.V3{v3(1, 0, 0), v3(1, 1000000, 0), v3(1000002, 999999, 0)}},
		{"back past Lo", chain, q(-2, 1), true, []impl.V3{v3(1, 0, 0), v3(1, -2, 0), v3(0, -3, 0)}},
		{"those with a part To alone", star, q(7, 1), true, []impl.V3{v3(0, 0, 0), v3(7, 0, 0), v3(0, 0, 0)}},
		{"past the limit", held, q(1, 1), false, nil},
		{"as far as the limit allows", held, q(0, 1), true, []impl.V3{{}, v3(top-1, 0, 0)}},
		{"one that has no part To, whatever k is", free, q(top, 1), true, []impl.V3{v3(top-1, 0, 0)}},
		{"an At that is no Q, of nothing", none, q(1, 1), false, nil},
		{"an At that is no Q for its denominator", none, q(1, 3), false, nil},
		{"At down to 0", none, q(-top, 1), true, []impl.V3{{}, {}}},
	} {
		want, fine := c.crew.wantExploded(c.k)
		got, ok := impl.Explode(c.crew.assembly(), c.k)
		if ok != c.fine || fine != c.fine || !slices.EqualFunc(got, want, sameSolids) || ok && len(got) != len(c.lows) {
			t.Error(c.name, "is", got, ok, "not", want, fine)
			continue
		}
		for i, s := range got {
			if lo, _, _ := impl.Bounds(s); lo != c.lows[i] {
				t.Error(c.name, "part", i, "is at", lo, "not", c.lows[i])
			}
		}
	}
	was, _ := impl.Placed(three())
	if is, ok := impl.Explode(three(), q(0, 1)); !ok || !slices.EqualFunc(is, was, sameSolids) {
		t.Error("drawn out by nothing it is", is, ok)
	}
}

func TestExplodeMany(t *testing.T) {
	t.Parallel()
	d := dice(204)
	pool := solidPool()
	for n := range 60 {
		var c crew
		for i := range int64(1 + n%5) {
			c.parts = append(c.parts, pool[d.next()%uint64(len(pool))])
			c.joints = append(c.joints, rail(jt(int64(d.next()%uint64(i+1))-1, int64(d.next()%24), d.upTo(3), d.upTo(3), d.upTo(3)), int64(d.next()%3), q(-3, 1), q(3, 1), q(d.upTo(3), 1)))
		}
		k := q(2*d.upTo(20)+1, 2)
		if n%10 == 9 {
			k = q(top, 1)
		}
		want, fine := c.wantExploded(k)
		got, ok := impl.Explode(c.assembly(), k)
		if ok != fine || !slices.EqualFunc(got, want, sameSolids) {
			t.Fatal(c.joints, "drawn out by", k, "is", got, ok, "not", want, fine)
		}
		for i, s := range got {
			if timesRat(volumeOf(s), big.NewRat(6, 1)).Cmp(c.parts[i].volume6()) != 0 {
				t.Fatal(c.joints, "part", i, "has another volume")
			}
		}
	}
}
