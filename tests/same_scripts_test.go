package tests

import (
	"slices"
	"strings"
	"testing"

	"loop.example/g00022/impl"
)

// Promise 23: assemblies, drawings, texts and scripts.

// anyAssembly has a few boxes and tetrahedra that hang on one another.
func (d *dice) anyAssembly(count int64) impl.Assembly {
	pool := []tetras{bx(0, 0, 0, 1, 2, 3), tt(0, 0, 0, 3, 0, 0, 0, 3, 0, 0, 0, 3), {}}
	var c crew
	for i := range count {
		c.parts = append(c.parts, pool[d.next()%uint64(len(pool))])
		c.joints = append(c.joints, rail(jt(int64(d.next()%uint64(i+1))-1, int64(d.next()%24), d.upTo(2), d.upTo(2), d.upTo(2)), int64(d.next()%3), q(-3, 1), q(3, 1), q(d.upTo(3), 1)))
	}
	return c.assembly()
}

func assemblyAnswersOf(seed uint64) []any {
	d := dice(seed)
	a := d.anyAssembly(int64(seed % 4))
	list := []any{impl.AsmOk(a)}
	two := func(x any, y any) { list = append(list, x, y) }
	two(impl.Placed(a))
	two(impl.Clashes(a))
	two(impl.Slide(a, int64(seed%3), q(d.upTo(4), 1)))
	two(impl.Tries(a, int64(seed%3), int64(seed%5)))
	two(impl.Explode(a, q(d.upTo(9), 1)))
	return list
}

func drawingAnswersOf(seed uint64) []any {
	d := dice(seed)
	s, _ := d.stack(1+int64(seed%3), 4).skin()
	list := []any{impl.Hidden(s, v3(d.upTo(4), d.upTo(4), d.upTo(4))), impl.Dim(v3(d.upTo(9), d.upTo(9), d.upTo(9)), v3(1, 2, 3), int64(seed%4))}
	two := func(x any, y any) { list = append(list, x, y) }
	two(impl.Strokes(s))
	two(impl.Shadow(s))
	return list
}

func scriptAnswersOf(seed uint64) []any {
	d := dice(seed)
	s, _ := d.stack(1+int64(seed%3), 4).skin()
	text, ok := impl.SolidText(s)
	back, line := impl.SolidRead(text)
	_, other := impl.SolidRead(text[:len(text)*int(seed%7)/7])
	return []any{text, ok, back, line, other, impl.RunScript(d.anyScript(int(seed % 9)))}
}

// handedAssembly is a with other things behind each list, and tells whether all of that is as it was.
func handedAssembly(a impl.Assembly) (impl.Assembly, func() bool) {
	clean := copyAssembly(a)
	var checks []func() bool
	parts := make([]impl.Solid, 0, len(a.Parts)+2)
	for _, s := range a.Parts {
		handed, stays := handedSolid(s)
		parts, checks = append(parts, handed), append(checks, stays)
	}
	lie := impl.Solid{Faces: []impl.Face{{Plane: pl(7, 7, 7, 7)}}}
	parts = append(parts, lie, lie)
	joints := append(slices.Clone(a.Joints), jt(77, 78, 1, 2, 3), jt(79, 80, 4, 5, 6))
	was := slices.Clone(joints)
	handed := impl.Assembly{Parts: parts[:len(a.Parts)], Joints: joints[:len(a.Joints)]}
	return handed, func() bool {
		for _, stays := range checks {
			if !stays() {
				return false
			}
		}
		return sameAssemblies(handed, clean) && slices.Equal(joints, was) && slices.EqualFunc(parts[len(a.Parts):], []impl.Solid{lie, lie}, sameSolids)
	}
}

// checkSolidsApart writes into each list of solids that are told, and sees it in no other one, and not in what is told again.
func checkSolidsApart(t *testing.T, name string, call func() []impl.Solid) {
	t.Helper()
	asBuilt := func() []impl.Built {
		var list []impl.Built
		for _, s := range call() {
			list = append(list, impl.Built{Solid: s})
		}
		return list
	}
	checkBuiltApart(t, name, asBuilt)
	list := call()
	var told []impl.Solid
	for _, s := range list {
		told = append(told, copySolid(s))
	}
	fill(list, impl.Solid{})
	if again := call(); !slices.EqualFunc(again, told, sameSolids) {
		t.Error(name, "is now", again, "not", told)
	}
}

func assembliesToHand() map[string]impl.Assembly {
	cube := bx(0, 0, 0, 2, 2, 2)
	still := crew{[]tetras{cube, cube, cubes(less(block(3, 3, 3), [3]int64{1, 1, 1})...)}, []impl.Joint{jt(-1, 23, 0, 0, 0), jt(-1, 23, 1, 1, 1), jt(1, 23, 0, 0, 0)}}
	return map[string]impl.Assembly{"three": three(), "three that stay where they are": still.assembly(), "one": crew{[]tetras{cube}, []impl.Joint{slider(-2, 2, 0)}}.assembly()}
}

func TestAssembliesShareNothing(t *testing.T) {
	for name, clean := range assembliesToHand() {
		a, stays := handedAssembly(clean)
		checkSolidsApart(t, "Placed of "+name, func() []impl.Solid { return firstOf(impl.Placed(a)) })
		checkSolidsApart(t, "Explode of "+name, func() []impl.Solid { return firstOf(impl.Explode(a, q(0, 1))) })
		checkSolidsApart(t, "Slide of "+name, func() []impl.Solid {
			slid, _ := impl.Slide(a, 0, q(0, 1))
			return slid.Parts
		})
		slid, _ := impl.Slide(a, 0, q(1, 1))
		want := copyAssembly(slid)
		fill(slid.Joints, jt(-5, -5, -5, -5, -5))
		if !slices.EqualFunc(slid.Parts, want.Parts, sameSolids) {
			t.Error(name, "shares its joints with its parts")
		}
		if again, ok := impl.Slide(a, 0, q(1, 1)); name != "three that stay where they are" && (!ok || !sameAssemblies(again, want)) {
			t.Error(name, "is now slid to", again, ok)
		}
		pairs, _ := impl.Clashes(a)
		toldPairs := slices.Clone(pairs)
		fill(pairs, pair(-5, -5))
		tries, _ := impl.Tries(a, 0, 4)
		toldTries := slices.Clone(tries)
		fill(tries, -5)
		if again, ok := impl.Clashes(a); !ok || !slices.Equal(again, toldPairs) {
			t.Error(name, "clashes now", again, "not", toldPairs)
		}
		if again, ok := impl.Tries(a, 0, 4); !ok || !slices.Equal(again, toldTries) {
			t.Error(name, "clashes now at", again, "not", toldTries)
		}
		// What is refused is left as it was, too.
		impl.AsmOk(a)
		impl.Slide(a, 0, q(99, 1))
		impl.Tries(a, 0, 99)
		impl.Explode(a, impl.Q{})
		impl.Placed(impl.Assembly{Parts: a.Parts[:cap(a.Parts)], Joints: a.Joints[:cap(a.Joints)]})
		impl.Clashes(impl.Assembly{Parts: a.Parts, Joints: a.Joints[:len(a.Joints)-1]})
		if !stays() {
			t.Error(name, "was written into")
		}
		// What is written into the assembly later is not seen in what was slid.
		slid, _ = impl.Slide(a, 0, q(0, 1))
		want = copyAssembly(slid)
		for _, s := range a.Parts {
			for _, f := range s.Faces {
				overwrite(f.Region.Loops)
			}
			fill(s.Faces, impl.Face{})
		}
		fill(a.Parts, impl.Solid{})
		fill(a.Joints, impl.Joint{})
		if !sameAssemblies(slid, want) {
			t.Error(name, "is, written into the one ahead,", slid)
		}
	}
}

func TestDrawingsShareNothing(t *testing.T) {
	for _, c := range append(solidCases()[1:12], solidCases()[20:30]...) {
		clean, _ := c.of.skin()
		s, stays := handedSolid(clean)
		strokes, _ := impl.Strokes(s)
		told := slices.Clone(strokes)
		fill(strokes, impl.Stroke{})
		if again, ok := impl.Strokes(s); !ok || len(told) == 0 || !slices.Equal(again, told) {
			t.Error(c.name, "is now drawn", again, ok, "not", told)
		}
		checkRegionsApart(t, "Shadow of "+c.name, func() []impl.Region {
			r, _ := impl.Shadow(s)
			return []impl.Region{r}
		})
		text, _ := impl.SolidText(s)
		checkApart(t, "SolidRead of "+c.name, func() impl.Solid {
			back, _ := impl.SolidRead(text)
			return back
		})
		impl.Hidden(s, v3(1, 1, 0))
		if again, ok := impl.SolidText(s); !ok || again != text || text != wantText(clean) || !stays() {
			t.Error(c.name, "was written into")
		}
		// What is refused is left as it was, too.
		for name, o := range spoilt(clean) {
			if strings.HasPrefix(name, "face 1") {
				bad, stays := handedSolid(o)
				impl.Strokes(bad)
				impl.Shadow(bad)
				impl.Hidden(bad, v3(0, 0, 0))
				impl.SolidText(bad)
				if !stays() {
					t.Error(c.name, name, "was written into")
				}
			}
		}
	}
}

// What one script makes is not known to the next one.
func TestScriptsKeepNothing(t *testing.T) {
	const made, asked = "box a 0 0 0 1 1 1\nvol a\n", "vol a\n"
	for range 3 {
		if got := impl.RunScript(made); got != "ok 6\nvol 1\n" {
			t.Errorf("it says %q", got)
		}
		if got := impl.RunScript(asked); got != "none\n" {
			t.Errorf("it says %q", got)
		}
	}
}
