package tests

import (
	"reflect"
	"slices"
	"sync"
	"testing"

	"loop.example/g00022/impl"
)

// Promise 23.

// answersOf calls each function that has landed with arguments that the seed gives; text is not to be written into.
func answersOf(seed uint64, text []byte) []any {
	d := dice(seed)
	a, b, small := d.fraction(), d.fraction(), 1+int64(d.next()%100)
	at := &places{dice(d.next()), impl.MaxCoord + 20}
	p := [5]impl.P3{at.three(), at.three(), at.three(), at.three(), at.three()}
	s := [4]impl.P2{at.two(), at.two(), at.two(), at.two()}
	var list []any
	two := func(x any, y any) { list = append(list, x, y) }
	three := func(x any, y any, z any) { list = append(list, x, y, z) }
	list = append(list, impl.QOk(a), impl.QCmp(a, b), impl.QText(a))
	two(impl.QOf(a.Num, b.Num))
	two(impl.QAdd(a, b))
	two(impl.QSub(a, b))
	two(impl.QMul(a, b))
	two(impl.QDiv(a, b))
	two(impl.QFloor(a, b))
	two(impl.QNear(a, small))
	two(impl.QRoot(a, small))
	two(impl.QRead(string(text)))
	list = append(list, impl.Orient2(s[0], s[1], s[2]), impl.InCircle(s[0], s[1], s[2], s[3]))
	list = append(list, impl.Orient3(p[0], p[1], p[2], p[3]), impl.InSphere(p[0], p[1], p[2], p[3], p[4]))
	list = append(list, impl.CmpAlong(p[0], p[1], p[2], p[3]), impl.CmpDist(p[0], p[1], p[2]))
	three(impl.FOrient3(p[0], p[1], p[2], p[3]))
	three(impl.FInCircle(s[0], s[1], s[2], s[3]))
	return slices.Concat(list, lineAnswersOf(seed), regionAnswersOf(seed), netAnswersOf(seed), overlayAnswersOf(seed), triangleAnswersOf(seed),
		cellAnswersOf(seed), hullAnswersOf(seed), offsetAnswersOf(seed), solidAnswersOf(seed), joinAnswersOf(seed), massAnswersOf(seed), sliceAnswersOf(seed),
		meshAnswersOf(seed), treeAnswersOf(seed), sketchAnswersOf(seed), historyAnswersOf(seed), assemblyAnswersOf(seed), drawingAnswersOf(seed), scriptAnswersOf(seed))
}

func lineAnswersOf(seed uint64) []any {
	s := &spots{dice(seed), int(seed % spotKinds)}
	a, b, c, one, two := s.place(), s.place(), s.place(), s.seg(), s.seg()
	list := []any{impl.VOk(a), impl.SegOk(one), impl.CmpV(a, b), impl.Turn(a, b, c), impl.OnSeg(a, one)}
	pair := func(x any, y any) { list = append(list, x, y) }
	kind, low, high := impl.Meet(one, two)
	list = append(list, kind, low, high)
	pair(impl.Foot(a, one))
	pair(impl.Near(a, one))
	pair(impl.Dist2(a, one))
	pair(impl.SortAlong(a, []impl.V{b, c, one.A, one.B, two.A, two.B}))
	return list
}

func regionAnswersOf(seed uint64) []any {
	s := &shapes{spots{dice(seed), int(seed % 2)}}
	r, ok := impl.MakeRegion(s.loops())
	list := []any{r, ok, impl.RegionOk(r), impl.Where(r, s.place())}
	two := func(x any, y any) { list = append(list, x, y) }
	two(impl.Area2(r))
	two(impl.Middle(r))
	two(impl.Pieces(r))
	two(impl.Move(r, impl.Aff{A: s.coord(), B: s.coord(), C: s.coord(), D: s.coord(), E: s.coord(), F: s.coord()}))
	return list
}

func netAnswersOf(seed uint64) []any {
	s := &spots{dice(seed), int(seed % 3)}
	segs := []impl.Seg{s.seg(), s.seg(), s.seg(), s.seg(), s.seg()}
	net, ok := impl.Arrange(segs)
	list := []any{net, ok}
	two := func(x any, y any) { list = append(list, x, y) }
	two(impl.NetParts(segs))
	two(impl.LoopArea2(net, 0))
	i, v, ok := impl.Above(segs, s.place())
	return append(list, i, v, ok)
}

func overlayAnswersOf(seed uint64) []any {
	s := &shapes{spots{dice(seed), 0}}
	a, b, _ := s.regions()
	list := []any{impl.Within(a, b)}
	two := func(x any, y any) { list = append(list, x, y) }
	two(impl.Both(a, b, 1+int64(seed%4)))
	two(impl.All([]impl.Region{b, a}))
	two(impl.Clip(a, s.coord(), s.coord(), s.coord()))
	two(impl.ClipSeg(b, s.seg()))
	two(impl.Strips(a))
	return list
}

func triangleAnswersOf(seed uint64) []any {
	s := &spots{dice(seed), int(seed % 2)}
	places := s.unlike(7)
	var list []any
	two := func(x any, y any) { list = append(list, x, y) }
	tris, ok := impl.Delaunay(places)
	two(tris, ok)
	two(impl.Ears(places[:3]))
	two(impl.Legal(places, turnedAnywhere(places, tris, int(seed%4)), []impl.Pair{{A: 2, B: 0}, {A: 1, B: 1}}))
	two(impl.Refine(places, q(1, 3), 2))
	return list
}

func cellAnswersOf(seed uint64) []any {
	s := &spots{dice(seed), int(seed % 2)}
	places := s.unlike(6)
	lo, hi := s.boxAround()
	list := []any{impl.Nearest(places, s.place())}
	two := func(x any, y any) { list = append(list, x, y) }
	two(impl.Cell(places, int64(seed%6), lo, hi))
	two(impl.CellAreas(places, lo, hi))
	two(impl.Touching(places, lo, hi))
	return list
}

func hullAnswersOf(seed uint64) []any {
	s := &spots{dice(seed), int(seed % spotKinds)}
	places := s.unlike(9)
	var list []any
	two := func(x any, y any) { list = append(list, x, y) }
	one, ok := impl.Hull2(places[:4])
	two(one, ok)
	other, ok := impl.Hull2(places)
	two(other, ok)
	two(impl.Mink(one, other))
	two(impl.Width2(other))
	i, j, far, ok := impl.Farthest(places)
	return append(list, i, j, far, ok)
}

func offsetAnswersOf(seed uint64) []any {
	s := &shapes{spots{dice(seed), 0}}
	r, _ := impl.MakeRegion(lps(s.loop()))
	var list []any
	two := func(x any, y any) { list = append(list, x, y) }
	two(impl.Grow(r, q(1, 2)))
	two(impl.Shrink(r, q(1, 4)))
	two(impl.Visible(r, s.place()))
	loop := s.hullOf(6)
	two(impl.Roof(loop, same(len(loop), q(1, 3))))
	two(impl.Level(loop, same(len(loop), q(1, 3)), q(1, 2)))
	return list
}

func solidAnswersOf(seed uint64) []any {
	s := &shapes{spots{dice(seed), int(seed % 2)}}
	a, b, c, d := s.place3(), s.place3(), s.place3(), s.place3()
	p, ok := impl.PlaneOf(a, b, c)
	list := []any{p, ok, impl.V3Ok(a), impl.PlaneOk(p), impl.Side(p, d)}
	two := func(x any, y any) { list = append(list, x, y) }
	two(impl.Drop(p, d))
	two(impl.Lift(p, s.place()))
	two(impl.Box(a, b))
	r, _ := impl.MakeRegion(lps(s.loop()))
	two(impl.Prism(r, q(0, 1), s.coord()))
	two(impl.Loft([]impl.V{s.place(), s.place(), s.place()}, q(1, 2), s.unlike(4), q(-1, 3)))
	solid, ok := impl.Hull3([]impl.V3{a, b, c, d, s.place3(), s.place3()})
	two(solid, ok)
	list = append(list, impl.SolidOk(solid), impl.Inside(solid, s.place3()))
	two(impl.EdgesOf(solid))
	two(impl.Corners(solid))
	two(impl.MapSolid(solid, impl.Aff3{A: s.coord(), B: s.coord(), C: s.coord(), D: s.coord(), E: s.coord(), F: s.coord(), G: s.coord(), H: s.coord(), I: s.coord(), X: s.coord(), Y: s.coord(), Z: s.coord()}))
	lo, hi, ok := impl.Bounds(solid)
	return append(list, lo, hi, ok)
}

func joinAnswersOf(seed uint64) []any {
	s := &shapes{spots{dice(seed), 0}}
	hull := func() impl.Solid {
		o, _ := impl.Hull3([]impl.V3{s.place3(), s.place3(), s.place3(), s.place3(), s.place3()})
		return o
	}
	a, b, p := hull(), hull(), impl.Plane{A: q(1, 1), B: s.coord(), C: s.coord(), D: s.coord()}
	list := []any{impl.Overlap(a, b)}
	two := func(x any, y any) { list = append(list, x, y) }
	two(impl.Join(a, b, 1+int64(seed%4)))
	two(impl.Gather([]impl.Solid{b, a, b}))
	two(impl.Cut(a, p))
	two(impl.Bevel(b, p, pl(0, 1, 0, 0), q(1, 2)))
	two(impl.Revolve([]impl.V{at(1, 0), at(2+int64(seed%3), 1), at(1, 2)}, []impl.Q{q(0, 1), q(1, 2+int64(seed%5)), q(1, 1)}))
	return list
}

func massAnswersOf(seed uint64) []any {
	s := &spots{dice(seed), int(seed % 2)}
	solid, _ := impl.Hull3([]impl.V3{s.place3(), s.place3(), s.place3(), s.place3(), s.place3()})
	var list []any
	two := func(x any, y any) { list = append(list, x, y) }
	two(impl.Mass(solid))
	two(impl.Centre(solid))
	two(impl.Inertia(solid, s.place3(), s.place3()))
	two(impl.Facing(solid, s.place3()))
	return list
}

func sliceAnswersOf(seed uint64) []any {
	s := &shapes{spots{dice(seed), 0}}
	solid, _ := impl.Hull3([]impl.V3{s.place3(), s.place3(), s.place3(), s.place3(), s.place3()})
	stock, _ := impl.MakeRegion(lps(s.loop()))
	keep, _ := impl.MakeRegion(lps(s.loop()))
	low, high, ok := impl.SliceAt(solid, s.coord())
	list := []any{low, high, ok}
	two := func(x any, y any) { list = append(list, x, y) }
	two(impl.Layers(solid, s.coord(), q(1, 2), int64(seed%13)))
	two(impl.Fill(stock, q(1, 3)))
	path, ok := impl.Path(stock, keep, q(1, 2), q(2, 3))
	two(path, ok)
	moves := []impl.Seg{s.seg(), s.seg(), s.seg()}
	two(impl.Swept(moves, q(1, 4)))
	two(impl.Gouges(moves, keep, q(1, 1)))
	two(impl.Gouges(path, keep, q(1, 2)))
	return list
}

func meshAnswersOf(seed uint64) []any {
	s := &spots{dice(seed), int(seed % 2)}
	solid, _ := impl.Hull3([]impl.V3{s.place3(), s.place3(), s.place3(), s.place3(), s.place3()})
	of, ok := impl.MeshOf(solid)
	list := []any{of, ok}
	two := func(x any, y any) { list = append(list, x, y) }
	for _, m := range []impl.Mesh{of, s.anyMesh(3+int(seed%5), int(seed%30), 2)} {
		list = append(list, impl.MeshOk(m))
		two(impl.SolidOf(m))
		two(impl.Repair(m))
		two(impl.Subdivide(m))
		b, ok := impl.PackMesh(m)
		two(b, ok)
		two(impl.ReadMesh(b))
		two(impl.ReadMesh(b[:len(b)-int(seed%3)]))
	}
	return list
}

func treeAnswersOf(seed uint64) []any {
	d := dice(seed)
	tree, ok := impl.BuildTree(d.crates(1+int(seed%12), int(seed%crateKinds)))
	list := []any{tree, ok, impl.TreeOk(tree)}
	two := func(x any, y any) { list = append(list, x, y) }
	b, from, dir := d.crates(1, 0)[0], v3(d.upTo(9), d.upTo(9), d.upTo(9)), v3(1, d.upTo(2), d.upTo(2))
	two(impl.Overlaps(tree, b))
	two(impl.Visited(tree, b))
	item, k, ok := impl.FirstHit(tree, from, dir)
	list = append(list, item, k, ok)
	item, far, ok := impl.Closest(tree, from)
	return append(list, item, far, ok)
}

const sameCalls = 150

func TestSameAnswers(t *testing.T) {
	var first [sameCalls][]any
	text := []byte("-123456789/987654321")
	for i := range first {
		first[i] = answersOf(uint64(i), text)
	}
	// Again in another order, so that what a call might keep of those ahead of it would be seen.
	for i := sameCalls - 1; i >= 0; i-- {
		if again := answersOf(uint64(i), text); !reflect.DeepEqual(first[i], again) {
			t.Error(i, "answers", again, "instead of", first[i])
		}
	}
	if string(text) != "-123456789/987654321" {
		t.Errorf("the text is now %s", text)
	}
}

func TestSameAnswersAtOnce(t *testing.T) {
	var want [sameCalls][]any
	for i := range want {
		want[i] = answersOf(uint64(i), []byte("7.25"))
	}
	var all sync.WaitGroup
	for range 4 {
		all.Go(func() {
			for i := range want {
				if got := answersOf(uint64(i), []byte("7.25")); !reflect.DeepEqual(got, want[i]) {
					t.Error(i, "answers", got, "instead of", want[i])
				}
			}
		})
	}
	all.Wait()
}

// spread puts loops into one stretch of memory, each with other places ahead of it and behind it, and tells that stretch, too.
func spread(loops [][]impl.V) ([][]impl.V, []impl.V) {
	all := []impl.V{at(77, 77)}
	for _, loop := range loops {
		all = append(slices.Concat(all, loop), at(77, 77), at(78, 78))
	}
	list, from := make([][]impl.V, 0, len(loops)+2), 1
	for _, loop := range loops {
		list = append(list, all[from:from+len(loop)])
		from += len(loop) + 2
	}
	return list, all
}

// overwrite writes into all of the memory of loops, and into the spare room behind.
func overwrite(loops [][]impl.V) {
	for _, loop := range loops {
		loop = loop[:cap(loop)]
		for i := range loop {
			loop[i] = at(-5, -5)
		}
	}
	loops = loops[:cap(loops)]
	for i := range loops {
		loops[i] = nil
	}
}

func deepLoops(loops [][]impl.V) [][]impl.V {
	var list [][]impl.V
	for _, loop := range loops {
		list = append(list, slices.Clone(loop))
	}
	return list
}

// regionCalls are the functions of regions, each telling its answer as lists of loops.
func regionCalls() map[string]func([][]impl.V) [][][]impl.V {
	return map[string]func([][]impl.V) [][][]impl.V{
		"MakeRegion": func(loops [][]impl.V) [][][]impl.V {
			r, _ := impl.MakeRegion(loops)
			return [][][]impl.V{r.Loops}
		},
		"Move": func(loops [][]impl.V) [][][]impl.V {
			r, _ := impl.Move(impl.Region{Loops: loops}, aff(1, 0, 0, 1, 0, 0))
			return [][][]impl.V{r.Loops}
		},
		"Move over": func(loops [][]impl.V) [][][]impl.V {
			r, _ := impl.Move(impl.Region{Loops: loops}, aff(0, 1, 1, 0, 0, 0))
			return [][][]impl.V{r.Loops}
		},
		"Pieces": func(loops [][]impl.V) [][][]impl.V {
			list, _ := impl.Pieces(impl.Region{Loops: loops})
			var told [][][]impl.V
			for _, r := range list {
				told = append(told, r.Loops)
			}
			return told
		},
		"Both with the empty one": func(loops [][]impl.V) [][][]impl.V {
			r, _ := impl.Both(impl.Region{Loops: loops}, impl.Region{}, impl.OpOr)
			return [][][]impl.V{r.Loops}
		},
		"Both behind the empty one": func(loops [][]impl.V) [][][]impl.V {
			r, _ := impl.Both(impl.Region{}, impl.Region{Loops: loops}, impl.OpXor)
			return [][][]impl.V{r.Loops}
		},
		"Both with itself": func(loops [][]impl.V) [][][]impl.V {
			r, _ := impl.Both(impl.Region{Loops: loops}, impl.Region{Loops: loops}, impl.OpAnd)
			return [][][]impl.V{r.Loops}
		},
		"Both, less": func(loops [][]impl.V) [][][]impl.V {
			r, _ := impl.Both(impl.Region{Loops: loops}, region(box(-1, -1, 4, 4)), impl.OpLess)
			return [][][]impl.V{r.Loops}
		},
		"All": func(loops [][]impl.V) [][][]impl.V {
			r := impl.Region{Loops: loops}
			one, _ := impl.All([]impl.Region{r})
			more, _ := impl.All([]impl.Region{r, {}, r, region(box(20, 0, 21, 1))})
			return [][][]impl.V{one.Loops, more.Loops}
		},
		"Clip": func(loops [][]impl.V) [][][]impl.V {
			all, _ := impl.Clip(impl.Region{Loops: loops}, q(1, 1), q(0, 1), q(99, 1))
			some, _ := impl.Clip(impl.Region{Loops: loops}, q(1, 1), q(1, 1), q(9, 1))
			return [][][]impl.V{all.Loops, some.Loops}
		},
		"Grow": func(loops [][]impl.V) [][][]impl.V {
			none, _ := impl.Grow(impl.Region{Loops: loops}, q(0, 1))
			some, _ := impl.Grow(impl.Region{Loops: loops}, q(1, 4))
			return [][][]impl.V{none.Loops, some.Loops}
		},
		"Shrink": func(loops [][]impl.V) [][][]impl.V {
			none, _ := impl.Shrink(impl.Region{Loops: loops}, q(0, 1))
			some, _ := impl.Shrink(impl.Region{Loops: loops}, q(1, 4))
			return [][][]impl.V{none.Loops, some.Loops}
		},
		"Visible": func(loops [][]impl.V) [][][]impl.V {
			part, _ := impl.Visible(impl.Region{Loops: loops}, impl.V{X: q(1, 2), Y: q(1, 2)})
			all, _ := impl.Visible(impl.Region{Loops: loops}, impl.V{X: q(5, 2), Y: q(5, 2)})
			return [][][]impl.V{part.Loops, all.Loops}
		},
		"Strips": func(loops [][]impl.V) [][][]impl.V {
			list, _ := impl.Strips(impl.Region{Loops: loops})
			return [][][]impl.V{list}
		},
		"the others": func(loops [][]impl.V) [][][]impl.V {
			r := impl.Region{Loops: loops}
			impl.Within(r, r)
			impl.ClipSeg(r, seg(0, 0, 9, 8))
			impl.RegionOk(r)
			impl.Where(r, at(1, 1))
			impl.Area2(r)
			impl.Middle(r)
			return nil
		},
	}
}

func TestRegionsShareNothing(t *testing.T) {
	outline := made(t, box(0, 0, 9, 9), box(1, 1, 8, 8), box(2, 2, 3, 3), lp(4, 4, 5, 4, 5, 7), box(10, 0, 11, 1), box(11, 1, 12, 2)).Loops
	other := lps(begun(box(0, 0, 6, 6), 2), backward(box(3, 3, 7, 7)), lp(0, 0, 0, 0, 1, 1))
	for name, call := range regionCalls() {
		for _, clean := range [][][]impl.V{outline, other} {
			loops, memory := spread(clean)
			was := slices.Clone(memory)
			first := call(loops)
			var told [][][]impl.V
			for _, list := range first {
				told = append(told, deepLoops(list))
			}
			for i, list := range first {
				for k := range list {
					// What is written into one list is seen in no other one.
					overwrite(list[k : k+1 : k+1])
					list[k] = slices.Clone(told[i][k])
					for j := range first {
						if !sameLoops(first[j], told[j]) {
							t.Error(name, "shares lists", i, k, "with", j)
						}
					}
				}
			}
			for _, list := range first {
				overwrite(list)
			}
			if !slices.Equal(memory, was) || !sameLoops(loops, clean) || !slices.EqualFunc(call(loops), told, sameLoops) {
				t.Error(name, "writes into", clean, "or shares it")
			}
			if spare := loops[:cap(loops)]; spare[len(clean)] != nil || spare[len(clean)+1] != nil {
				t.Error(name, "writes behind the loops")
			}
		}
	}
}

// copied shares nothing with n.
func copied(n impl.Net) impl.Net {
	n.Verts, n.Edges, n.Loops = slices.Clone(n.Verts), slices.Clone(n.Edges), slices.Clone(n.Loops)
	for i, e := range n.Edges {
		n.Edges[i].Owners = slices.Clone(e.Owners)
	}
	for i, loop := range n.Loops {
		n.Loops[i] = slices.Clone(loop)
	}
	return n
}

// numberLists are the owners and the loops of n.
func numberLists(n impl.Net) [][]int64 {
	list := slices.Clone(n.Loops)
	for _, e := range n.Edges {
		list = append(list, e.Owners)
	}
	return list
}

// fill writes into all of the memory of a list, and tells what was there.
func fill[T any](list []T, value T) []T {
	list = list[:cap(list)]
	was := slices.Clone(list)
	for i := range list {
		list[i] = value
	}
	return was
}

func TestNetsShareNothing(t *testing.T) {
	memory := append(boxSegs(0, 0, 4, 4), seg(0, 0, 4, 4), seg(1, 1, 6, 6), seg(6, 6, 1, 1), seg(9, 9, 9, 10), seg(7, 7, 7, 8), seg(8, 8, 9, 8))
	was := slices.Clone(memory)
	list := memory[1 : len(memory)-2]
	net, _ := impl.Arrange(list)
	want := copied(net)
	lists := numberLists(net)
	if len(net.Loops) < 3 || len(lists) < 9 {
		t.Fatal("too small a net", net)
	}
	for _, one := range lists {
		before := fill(one, -9)
		for _, other := range lists {
			if len(other) > 0 && len(one) > 0 && &other[0] != &one[0] && slices.Contains(other, -9) {
				t.Error("two lists share memory", one, other)
			}
		}
		copy(one[:cap(one)], before)
	}
	if !sameNets(net, want) {
		t.Error("the net is not as it was", net, want)
	}
	impl.NetParts(list)
	impl.Above(list, at(1, 0))
	if !slices.Equal(memory, was) {
		t.Error("the segments were written into", memory)
	}
	for _, one := range lists {
		fill(one, -9)
	}
	fill(net.Verts, at(-5, -5))
	fill(net.Edges, impl.NetEdge{From: 55})
	fill(net.Loops, nil)
	if again, ok := impl.Arrange(list); !ok || !sameNets(again, want) || !slices.Equal(memory, was) {
		t.Error("what is written into an answer is seen", again, memory)
	}
}

func TestNetsHandedInStay(t *testing.T) {
	net, _ := impl.Arrange(append(boxSegs(0, 0, 4, 4), seg(0, 0, 4, 4), seg(1, 1, 6, 6)))
	// With spare room behind each list.
	net.Verts = append(net.Verts, at(77, 77))
	net.Loops = append(net.Loops, []int64{0, 1, 2})
	whole := copied(net)
	handed := net
	handed.Verts, handed.Loops = net.Verts[:len(net.Verts)-1], net.Loops[:len(net.Loops)-1]
	for k := int64(-1); k <= int64(len(net.Loops)); k++ {
		first, ok1 := impl.LoopArea2(handed, k)
		again, ok2 := impl.LoopArea2(handed, k)
		if first != again || ok1 != ok2 || ok1 != (k >= 0 && k < int64(len(handed.Loops))) {
			t.Error("loop", k, "goes round", first, again)
		}
	}
	if !sameNets(net, whole) {
		t.Error("the net was written into", net)
	}
}

func TestClippedSegmentsShareNothing(t *testing.T) {
	ring := made(t, box(0, 0, 6, 6), box(2, 2, 4, 4))
	loops, memory := spread(ring.Loops)
	was := slices.Clone(memory)
	first, _ := impl.ClipSeg(impl.Region{Loops: loops}, seg(-1, 3, 7, 3))
	want := slices.Clone(first)
	fill(first, seg(1, 1, 2, 2))
	if again, ok := impl.ClipSeg(impl.Region{Loops: loops}, seg(-1, 3, 7, 3)); !ok || !slices.Equal(again, want) || !slices.Equal(memory, was) {
		t.Error("what is written into an answer is seen", again, memory)
	}
}

// checkStays calls with a list that has others ahead of it and behind it in memory; the answer is written into, and then
// neither the list is another one, nor what is answered again.
func checkStays[T, A comparable](t *testing.T, name string, list []T, other T, call func([]T) []A) {
	t.Helper()
	memory := slices.Concat([]T{other}, list, []T{other, other})
	was := slices.Clone(memory)
	handed := memory[1 : len(list)+1]
	first := call(handed)
	told := slices.Clone(first)
	var nothing A
	fill(first, nothing)
	if !slices.Equal(memory, was) {
		t.Error(name, "has written into", list, "or shares it:", memory)
	}
	if again := call(handed); len(told) == 0 || !slices.Equal(again, told) || !slices.Equal(memory, was) {
		t.Error(name, "answers", again, "not", told)
	}
}

func TestTrianglesShareNothing(t *testing.T) {
	places, other := lp(0, 0, 9, 1, 8, 7, 4, 3, 1, 8), at(77, 77)
	ears, _ := impl.Ears(places)
	checkStays(t, "Delaunay", places, other, func(list []impl.V) []impl.Tri { return firstOf(impl.Delaunay(list)) })
	checkStays(t, "Ears", places, other, func(list []impl.V) []impl.Tri { return firstOf(impl.Ears(list)) })
	checkStays(t, "Legal", places, other, func(list []impl.V) []impl.Tri { return firstOf(impl.Legal(list, ears, nil)) })
	for steps := range int64(4) {
		checkStays(t, "Refine", places, other, func(list []impl.V) []impl.V { return firstOf(impl.Refine(list, q(1, 9), steps)) })
	}
	// Where nothing is turned, too; and triangles that are not in order.
	backward := []impl.Tri{ears[2], ears[1], ears[0]}
	all := []impl.Pair{{A: 3, B: 1}, {A: 4, B: 0}, {A: 1, B: 4}, {A: 0, B: 3}, {A: 2, B: 2}}
	for _, fixed := range [][]impl.Pair{nil, all} {
		checkStays(t, "Legal", backward, tri(7, 7, 7), func(list []impl.Tri) []impl.Tri { return firstOf(impl.Legal(places, list, fixed)) })
	}
	checkStays(t, "Legal", all, impl.Pair{A: 9, B: 9}, func(list []impl.Pair) []impl.Tri { return firstOf(impl.Legal(places, backward, list)) })
}

func firstOf[A any](list []A, _ bool) []A { return list }

func TestCellsShareNothing(t *testing.T) {
	places, other, lo, hi := lp(1, 1, 3, 1, 5, 2, 1, 5, 9, 9), at(77, 77), at(0, 0), at(6, 6)
	for i := range int64(4) {
		checkStays(t, "Cell", places[:4], other, func(list []impl.V) []impl.V {
			r, _ := impl.Cell(list, i, lo, hi)
			// The loops themselves are new, too.
			defer fill(r.Loops, nil)
			return r.Loops[0]
		})
	}
	checkStays(t, "Cell of one", places[:1], other, func(list []impl.V) []impl.V {
		r, _ := impl.Cell(list, 0, lo, hi)
		return r.Loops[0]
	})
	checkStays(t, "Nearest", places, other, func(list []impl.V) []int64 { return []int64{impl.Nearest(list, at(4, 4))} })
	checkStays(t, "CellAreas", places, other, func(list []impl.V) []impl.Q { return firstOf(impl.CellAreas(list, lo, hi)) })
	checkStays(t, "Touching", places, other, func(list []impl.V) []impl.Pair { return firstOf(impl.Touching(list, lo, hi)) })
}

func TestHullsShareNothing(t *testing.T) {
	other, sq := at(77, 77), box(0, 0, 4, 4)
	for _, places := range [][]impl.V{sq, lp(3, 3, 0, 0, 3, 3, 4, 0, 2, 1, 0, 4), lp(1, 1), lp(1, 1, 4, 4), lp(4, 4, 1, 1), lp(4, 4, 1, 1, 2, 2, 1, 1)} {
		checkStays(t, "Hull2", places, other, func(list []impl.V) []impl.V { return firstOf(impl.Hull2(list)) })
		checkStays(t, "Width2", places, other, func(list []impl.V) []impl.Q {
			w, _ := impl.Width2(list)
			return []impl.Q{w}
		})
	}
	for _, loop := range [][]impl.V{sq, lp(0, 0), lp(0, 0, 5, 1), lp(0, 0, 2, 0, 0, 2)} {
		checkStays(t, "Mink", loop, other, func(list []impl.V) []impl.V { return firstOf(impl.Mink(list, sq)) })
		checkStays(t, "Mink", loop, other, func(list []impl.V) []impl.V { return firstOf(impl.Mink(lp(0, 0), list)) })
		checkStays(t, "Mink with itself", loop, other, func(list []impl.V) []impl.V { return firstOf(impl.Mink(list, list)) })
	}
	checkStays(t, "Farthest", lp(3, 3, 0, 0, 3, 3, 4, 0, 2, 1), other, func(list []impl.V) []impl.Q {
		_, _, far, _ := impl.Farthest(list)
		return []impl.Q{far}
	})
}

func TestRoofsShareNothing(t *testing.T) {
	loop, slopes := lp(0, 0, 9, 1, 8, 7, 1, 5), []impl.Q{q(1, 1), q(2, 1), q(1, 3), q(5, 2)}
	for k := range loop {
		checkStays(t, "Roof", loop, at(77, 77), func(list []impl.V) []impl.V { return firstOf(impl.Roof(list, slopes))[k].Loop })
		checkStays(t, "Roof", slopes, q(77, 1), func(list []impl.Q) []impl.Q { return firstOf(impl.Roof(loop, list))[k].Tops })
	}
	for _, h := range []impl.Q{q(0, 1), q(1, 2), q(9, 1)} {
		checkStays(t, "Level", loop, at(77, 77), func(list []impl.V) []impl.V { return firstOf(impl.Level(list, slopes, h)) })
		checkStays(t, "Level", slopes, q(77, 1), func(list []impl.Q) []impl.V { return firstOf(impl.Level(loop, list, h)) })
	}
	told, _ := impl.Roof(loop, slopes)
	panels, _ := impl.Roof(loop, slopes)
	for k := range panels {
		fill(panels[k].Loop, at(-5, -5))
		fill(panels[k].Tops, q(-5, 1))
		if again, ok := impl.Roof(loop, slopes); !ok || !samePanels(again, told) || !samePanels(panels[k+1:], told[k+1:]) {
			t.Error("what is written into an answer is seen", again, panels)
		}
	}
}

func TestListOfRegionsStays(t *testing.T) {
	list := []impl.Region{region(box(0, 0, 2, 2)), region(box(1, 1, 3, 3)), region(box(9, 9, 10, 10)), region(box(5, 5, 6, 6))}
	all, ok := impl.All(list[:2])
	if !ok || len(all.Loops) != 1 {
		t.Fatal("all", all)
	}
	overwrite(all.Loops)
	for i, want := range [][]impl.V{box(0, 0, 2, 2), box(1, 1, 3, 3), box(9, 9, 10, 10), box(5, 5, 6, 6)} {
		if !sameLoops(list[i].Loops, lps(want)) {
			t.Error("region", i, "is now", list[i])
		}
	}
}

// checkApart writes into each list of a solid that is made, and sees it in no other list, and not in what is made again.
func checkApart(t *testing.T, name string, call func() impl.Solid) {
	t.Helper()
	s := call()
	told := copySolid(s)
	if len(s.Faces) == 0 {
		t.Fatal(name, "is empty")
	}
	for i, f := range s.Faces {
		for k, loop := range f.Region.Loops {
			was := fill(loop, at(-5, -5))
			for j, g := range s.Faces {
				for l, other := range g.Region.Loops {
					if (i != j || k != l) && !slices.Equal(other, told.Faces[j].Region.Loops[l]) {
						t.Error(name, "shares", i, k, "with", j, l)
					}
				}
			}
			copy(loop[:cap(loop)], was)
		}
		loops := fill(f.Region.Loops, nil)
		for j, g := range s.Faces {
			if i != j && !sameLoops(g.Region.Loops, told.Faces[j].Region.Loops) {
				t.Error(name, "shares the loops of", i, "with", j)
			}
		}
		copy(f.Region.Loops, loops)
	}
	if !sameSolids(s, told) {
		t.Error(name, "is not as it was", s, told)
	}
	for _, f := range s.Faces {
		overwrite(f.Region.Loops)
	}
	fill(s.Faces, impl.Face{})
	if again := call(); !sameSolids(again, told) {
		t.Error(name, "is now", again, "not", told)
	}
}

// handedSolid is s in memory of its own, with other things behind each list, and tells whether all of that is as it was.
func handedSolid(s impl.Solid) (impl.Solid, func() bool) {
	other := impl.Face{Plane: pl(1, 2, 3, 4), Region: region(box(7, 7, 8, 8))}
	faces := make([]impl.Face, 0, len(s.Faces)+2)
	var memories, clean [][]impl.V
	for _, f := range s.Faces {
		loops, memory := spread(f.Region.Loops)
		faces = append(faces, impl.Face{Plane: f.Plane, Region: impl.Region{Loops: loops}})
		memories, clean = append(memories, memory), append(clean, slices.Clone(memory))
	}
	faces = append(faces, other, other)
	handed := impl.Solid{Faces: faces[:len(s.Faces)]}
	return handed, func() bool {
		spare := impl.Solid{Faces: faces[len(s.Faces):]}
		return sameSolids(handed, s) && sameLoops(memories, clean) && sameSolids(spare, impl.Solid{Faces: []impl.Face{other, other}})
	}
}

func TestSolidsShareNothing(t *testing.T) {
	ring := made(t, box(0, 0, 6, 6), box(1, 1, 5, 5))
	loops, memory := spread(ring.Loops)
	was := slices.Clone(memory)
	lo, hi := v3(0, 0, 0), v3(1, 2, 3)
	corners := cornersOfBox(lo, hi)
	places := append(slices.Clone(corners), v3(9, 9, 9), v3(8, 8, 8))
	first, second := append(box(0, 0, 4, 4), at(7, 7)), append(box(1, 1, 3, 3), at(9, 9))
	for name, call := range map[string]func() (impl.Solid, bool){
		"Box":   func() (impl.Solid, bool) { return impl.Box(lo, hi) },
		"Prism": func() (impl.Solid, bool) { return impl.Prism(impl.Region{Loops: loops}, q(0, 1), q(1, 1)) },
		"Hull3": func() (impl.Solid, bool) { return impl.Hull3(places[:8]) },
		"Loft":  func() (impl.Solid, bool) { return impl.Loft(first[:4], q(0, 1), second[:4], q(1, 1)) },
		"Loft of one list": func() (impl.Solid, bool) {
			return impl.Loft(first[:4], q(0, 1), first[:4], q(1, 1))
		},
	} {
		checkApart(t, name, func() impl.Solid {
			s, _ := call()
			return s
		})
	}
	if !slices.Equal(memory, was) || !sameLoops(loops, ring.Loops) || !slices.Equal(places[:8], corners) || places[8] != v3(9, 9, 9) || places[9] != v3(8, 8, 8) {
		t.Error("what was handed in was written into")
	}
	if !slices.Equal(first, append(box(0, 0, 4, 4), at(7, 7))) || !slices.Equal(second, append(box(1, 1, 3, 3), at(9, 9))) {
		t.Error("the loops of a loft were written into", first, second)
	}
}

func TestSolidsHandedInStay(t *testing.T) {
	for _, c := range solidCases()[1:12] {
		clean, _ := c.of.skin()
		s, stays := handedSolid(clean)
		for _, m := range []impl.Aff3{identity(), aff3(0, 1, 0, 0, 1, 0, 0, 0, 0, 0, 1, 0), aff3(1, 2, 3, 4, 0, -5, 6, 7, 1, 1, 1, 8)} {
			checkApart(t, "MapSolid of "+c.name, func() impl.Solid {
				o, _ := impl.MapSolid(s, m)
				return o
			})
		}
		edges, _ := impl.EdgesOf(s)
		corners, _ := impl.Corners(s)
		lo, hi, _ := impl.Bounds(s)
		told, toldCorners := slices.Clone(edges), slices.Clone(corners)
		fill(edges, impl.Edge3{})
		fill(corners, impl.V3{})
		again, ok1 := impl.EdgesOf(s)
		cornersAgain, ok2 := impl.Corners(s)
		lo2, hi2, ok3 := impl.Bounds(s)
		if !ok1 || !ok2 || !ok3 || !slices.Equal(again, told) || !slices.Equal(cornersAgain, toldCorners) || lo != lo2 || hi != hi2 {
			t.Error(c.name, "what is written into an answer is seen", again, cornersAgain)
		}
		impl.Inside(s, v3(0, 0, 0))
		if !impl.SolidOk(s) || !stays() {
			t.Error(c.name, "was written into")
		}
		// What is refused is left as it was, too.
		for _, o := range spoilt(clean) {
			bad, stays := handedSolid(o)
			if impl.SolidOk(bad) || !stays() {
				t.Error(c.name, "spoilt, was written into", bad)
			}
		}
	}
}

func TestJoinsShareNothing(t *testing.T) {
	hollow, _ := cubes(less(block(3, 3, 3), [3]int64{1, 1, 1})...).skin()
	bar, _ := bx(-1, 1, 1, 5, 2, 2).skin()
	one, stays1 := handedSolid(hollow)
	two, stays2 := handedSolid(bar)
	list := []impl.Solid{one, two, one, bar, hollow}
	ts := []impl.Q{q(0, 1), q(1, 2), q(1, 1), q(5, 1), q(7, 1)}
	profile := append(box(1, 0, 2, 1), at(9, 9))
	for name, call := range map[string]func() (impl.Solid, bool){
		"OpAnd":           func() (impl.Solid, bool) { return impl.Join(one, two, impl.OpAnd) },
		"OpOr":            func() (impl.Solid, bool) { return impl.Join(one, two, impl.OpOr) },
		"OpLess":          func() (impl.Solid, bool) { return impl.Join(one, two, impl.OpLess) },
		"OpXor":           func() (impl.Solid, bool) { return impl.Join(two, one, impl.OpXor) },
		"with itself":     func() (impl.Solid, bool) { return impl.Join(one, one, impl.OpOr) },
		"with nothing":    func() (impl.Solid, bool) { return impl.Join(one, impl.Solid{}, impl.OpOr) },
		"less nothing":    func() (impl.Solid, bool) { return impl.Join(one, impl.Solid{}, impl.OpLess) },
		"nothing with":    func() (impl.Solid, bool) { return impl.Join(impl.Solid{}, one, impl.OpXor) },
		"Gather":          func() (impl.Solid, bool) { return impl.Gather(list[:3]) },
		"Gather of one":   func() (impl.Solid, bool) { return impl.Gather(list[:1]) },
		"Cut":             func() (impl.Solid, bool) { return impl.Cut(one, planeBy(1, 1, 1, 9, 2)) },
		"Cut beside":      func() (impl.Solid, bool) { return impl.Cut(one, pl(1, 0, 0, 9)) },
		"Bevel":           func() (impl.Solid, bool) { return impl.Bevel(one, pl(1, 0, 0, 3), pl(0, 0, 1, 3), q(1, 2)) },
		"Bevel by 0":      func() (impl.Solid, bool) { return impl.Bevel(one, pl(1, 0, 0, 3), pl(0, 0, 1, 3), q(0, 1)) },
		"Revolve":         func() (impl.Solid, bool) { return impl.Revolve(profile[:4], ts[:3]) },
		"Revolve in one":  func() (impl.Solid, bool) { return impl.Revolve(profile[:4], ts[:2]) },
		"a later one too": func() (impl.Solid, bool) { return impl.Join(two, one, impl.OpLess) },
	} {
		checkApart(t, name, func() impl.Solid {
			s, ok := call()
			if !ok {
				t.Error(name, "is refused")
			}
			return s
		})
		impl.Overlap(one, two)
		if !stays1() || !stays2() {
			t.Fatal(name, "wrote into a solid that was handed in")
		}
	}
	if !slices.EqualFunc(list, []impl.Solid{hollow, bar, hollow, bar, hollow}, sameSolids) {
		t.Error("the list of solids was written into")
	}
	if !slices.Equal(ts, []impl.Q{q(0, 1), q(1, 2), q(1, 1), q(5, 1), q(7, 1)}) || !slices.Equal(profile, append(box(1, 0, 2, 1), at(9, 9))) {
		t.Error("ts or the profile were written into:", ts, profile)
	}
	// What is refused is left as it was, too.
	for name, o := range spoilt(bar) {
		bad, stays := handedSolid(o)
		impl.Join(bad, one, impl.OpOr)
		impl.Join(one, bad, impl.OpAnd)
		impl.Gather([]impl.Solid{one, bad})
		impl.Overlap(bad, bad)
		impl.Cut(bad, pl(1, 0, 0, 1))
		impl.Bevel(bad, pl(1, 0, 0, 1), pl(0, 1, 0, 1), q(1, 1))
		if !stays() || !stays1() {
			t.Error(name, "was written into")
		}
	}
}

func TestSolidsThatAreWeighedStay(t *testing.T) {
	weigh := func(s impl.Solid) []any {
		m, ok1 := impl.Mass(s)
		c, ok2 := impl.Centre(s)
		i, ok3 := impl.Inertia(s, v3(1, 2, 3), v3(-1, 0, 2))
		f, ok4 := impl.Facing(s, v3(1, -2, 3))
		return []any{m, ok1, c, ok2, i, ok3, f, ok4}
	}
	for _, c := range solidCases() {
		clean, _ := c.of.skin()
		s, stays := handedSolid(clean)
		first := weigh(s)
		if again := weigh(s); !reflect.DeepEqual(first, again) || !reflect.DeepEqual(first, weigh(copySolid(clean))) {
			t.Error(c.name, "answers", again, "instead of", first)
		}
		if !stays() {
			t.Error(c.name, "was written into")
		}
	}
	// What is refused is left as it was, too.
	clean := skins(bx(-1, 1, 1, 5, 2, 2))[0]
	for name, o := range spoilt(clean) {
		bad, stays := handedSolid(o)
		if weigh(bad); !stays() {
			t.Error(name, "was written into")
		}
	}
}

// checkRegionsApart writes into each list of the regions that are told, and sees it in no other of them, and not when they are
// told again.
func checkRegionsApart(t *testing.T, name string, call func() []impl.Region) {
	t.Helper()
	told, again := call(), call()
	if len(told) == 0 {
		t.Fatal(name, "tells nothing")
	}
	for i, r := range told {
		for k, loop := range r.Loops {
			was := fill(loop, at(-5, -5))
			for j, o := range told {
				for l, other := range o.Loops {
					if (i != j || k != l) && !slices.Equal(other, again[j].Loops[l]) {
						t.Error(name, "shares", i, k, "with", j, l)
					}
				}
			}
			copy(loop[:cap(loop)], was)
		}
		loops := fill(r.Loops, nil)
		for j, o := range told {
			if i != j && !sameLoops(o.Loops, again[j].Loops) {
				t.Error(name, "shares the loops of", i, "with", j)
			}
		}
		copy(r.Loops, loops)
	}
	for _, r := range told {
		overwrite(r.Loops)
	}
	fill(told, impl.Region{})
	if later := call(); !slices.EqualFunc(later, again, func(r, o impl.Region) bool { return sameLoops(r.Loops, o.Loops) }) {
		t.Error(name, "is now", later, "not", again)
	}
}

func TestSlicesShareNothing(t *testing.T) {
	for _, c := range solidCases()[1:20] {
		clean, _ := c.of.skin()
		s, stays := handedSolid(clean)
		for _, z := range heightsOf(clean) {
			checkRegionsApart(t, "SliceAt of "+c.name, func() []impl.Region {
				low, high, _ := impl.SliceAt(s, z)
				return []impl.Region{low, high}
			})
		}
		for _, n := range []int64{1, 5, 12} {
			checkRegionsApart(t, "Layers of "+c.name, func() []impl.Region { return firstOf(impl.Layers(s, q(-1, 2), q(1, 2), n)) })
		}
		if !stays() {
			t.Error(c.name, "was written into")
		}
	}
	// What is refused is left as it was, too.
	for name, o := range spoilt(skins(bx(-1, 1, 1, 5, 2, 2))[0]) {
		bad, stays := handedSolid(o)
		impl.SliceAt(bad, q(3, 2))
		impl.Layers(bad, q(0, 1), q(1, 2), 5)
		impl.Layers(bad, q(0, 1), q(1, 2), 0)
		if !stays() {
			t.Error(name, "was written into")
		}
	}
}

func TestPathsShareNothing(t *testing.T) {
	ring := made(t, box(0, 0, 12, 12), box(2, 2, 10, 10))
	stock, memory1 := spread(ring.Loops)
	kept, memory2 := spread(lps(box(5, 5, 7, 7), box(8, 0, 9, 1)))
	was1, was2 := slices.Clone(memory1), slices.Clone(memory2)
	one, two := impl.Region{Loops: stock}, impl.Region{Loops: kept}
	moves, other := segs(seg(0, 0, 6, 6), seg(6, 6, 9, 0), seg(6, 6, 6, 2), seg(0, 0, 6, 6)), seg(77, 77, 78, 78)
	for name, call := range map[string]func() []impl.Seg{
		"Fill":           func() []impl.Seg { return firstOf(impl.Fill(one, q(1, 1))) },
		"Path":           func() []impl.Seg { return firstOf(impl.Path(one, two, q(1, 1), q(3, 1))) },
		"Path by 0":      func() []impl.Seg { return firstOf(impl.Path(one, two, q(0, 1), q(1, 2))) },
		"Path of nought": func() []impl.Seg { return firstOf(impl.Path(one, impl.Region{}, q(0, 1), q(1, 2))) },
	} {
		first := call()
		told := slices.Clone(first)
		fill(first, other)
		if again := call(); len(told) == 0 || !slices.Equal(again, told) {
			t.Error(name, "is now", again, "not", told)
		}
	}
	checkStays(t, "Gouges", moves, other, func(list []impl.Seg) []int64 { return firstOf(impl.Gouges(list, two, q(1, 1))) })
	checkStays(t, "Swept", moves, other, func(list []impl.Seg) []impl.V {
		r, _ := impl.Swept(list, q(1, 2))
		// The loops themselves are new, too.
		defer fill(r.Loops, nil)
		return r.Loops[0]
	})
	checkRegionsApart(t, "Swept", func() []impl.Region {
		r, _ := impl.Swept(roundWay(0, 0, 9, 0, 9, 9, 0, 9), q(1, 1))
		return []impl.Region{r}
	})
	// What is refused is left as it was, too.
	impl.Fill(one, q(0, 1))
	impl.Path(two, one, q(-1, 1), q(1, 1))
	checkNoSweep(t, "a broken tool", moves, q(2, 2))
	if !slices.Equal(memory1, was1) || !slices.Equal(memory2, was2) || !sameLoops(stock, ring.Loops) || !sameLoops(kept, lps(box(5, 5, 7, 7), box(8, 0, 9, 1))) {
		t.Error("what was handed in was written into")
	}
}

// handedMesh is m in memory of its own, with other things behind each list, and tells whether all of that is as it was.
func handedMesh(m impl.Mesh) (impl.Mesh, func() bool) {
	verts := slices.Concat(m.Verts, []impl.V3{v3(77, 77, 77), v3(78, 78, 78), v3(79, 79, 79)})
	tris := slices.Concat(m.Tris, []impl.Tri{tri(7, 7, 7), tri(8, 8, 8), tri(9, 9, 9)})
	was := impl.Mesh{Verts: slices.Clone(verts), Tris: slices.Clone(tris)}
	return impl.Mesh{Verts: verts[:len(m.Verts)], Tris: tris[:len(m.Tris)]}, func() bool {
		return sameMeshes(impl.Mesh{Verts: verts, Tris: tris}, was)
	}
}

// checkMeshApart writes into each list of a mesh that is made, and sees it in no other list, and not in what is made again.
func checkMeshApart(t *testing.T, name string, call func() impl.Mesh) {
	t.Helper()
	m := call()
	told := copyMesh(m)
	fill(m.Verts, v3(-5, -5, -5))
	if !slices.Equal(m.Tris, told.Tris) {
		t.Error(name, "shares its places with its triangles")
	}
	fill(m.Tris, tri(-5, -5, -5))
	if again := call(); len(told.Verts) == 0 || !sameMeshes(again, told) {
		t.Error(name, "is now", again, "not", told)
	}
}

func TestMeshesShareNothing(t *testing.T) {
	for _, c := range append(solidCases()[1:12], solidCases()[20:24]...) {
		clean, _ := c.of.skin()
		s, stays := handedSolid(clean)
		first, _ := impl.MeshOf(s)
		checkMeshApart(t, "MeshOf of "+c.name, func() impl.Mesh {
			m, _ := impl.MeshOf(s)
			return m
		})
		m, same := handedMesh(first)
		checkApart(t, "SolidOf of "+c.name, func() impl.Solid {
			o, _ := impl.SolidOf(m)
			return o
		})
		for name, call := range map[string]func(impl.Mesh) (impl.Mesh, bool){"Repair": impl.Repair, "Subdivide": impl.Subdivide} {
			if _, ok := call(m); ok {
				checkMeshApart(t, name+" of "+c.name, func() impl.Mesh {
					o, _ := call(m)
					return o
				})
			}
		}
		// What is repaired already, and what has places alone.
		repaired, _ := impl.Repair(m)
		r, sameToo := handedMesh(repaired)
		bare, bareSame := handedMesh(impl.Mesh{Verts: m.Verts})
		checkMeshApart(t, "Repair again of "+c.name, func() impl.Mesh {
			o, _ := impl.Repair(r)
			return o
		})
		checkMeshApart(t, "Subdivide of the places of "+c.name, func() impl.Mesh {
			o, _ := impl.Subdivide(bare)
			return o
		})
		impl.MeshOk(m)
		if !stays() || !same() || !sameToo() || !bareSame() {
			t.Error(c.name, "was written into")
		}
	}
	// What is refused is left as it was, too.
	for name, o := range spoilt(skins(bx(-1, 1, 1, 5, 2, 2))[0]) {
		bad, stays := handedSolid(o)
		if impl.MeshOf(bad); !stays() {
			t.Error(name, "was written into")
		}
	}
	for _, o := range []impl.Mesh{meshBy([]int64{0, 0, 0}, tri(0, 1, 2)), meshBy([]int64{2, 0, 0, 1, 0, 0, 0, 0, 0}, tri(0, 1, 2), tri(1, 0, 2)), {Verts: placesInRow(201)}} {
		bad, stays := handedMesh(o)
		checkNotMeshOk(t, "a mesh that is none", bad)
		if !stays() {
			t.Error("a mesh that is none was written into")
		}
	}
}

func TestBytesShareNothing(t *testing.T) {
	for name, clean := range bytesCases() {
		m, stays := handedMesh(clean)
		first, _ := impl.PackMesh(m)
		told := slices.Clone(first)
		fill(first, 99)
		if again, ok := impl.PackMesh(m); !ok || !slices.Equal(again, told) || !stays() {
			t.Error(name, "is packed as", again, "not", told)
		}
		memory := slices.Concat([]byte{83, 77, 1}, told, []byte{9, 8, 7, 6})
		was := slices.Clone(memory)
		handed := memory[3 : 3+len(told)]
		if len(clean.Verts) > 0 {
			checkMeshApart(t, "ReadMesh of "+name, func() impl.Mesh {
				o, _ := impl.ReadMesh(handed)
				return o
			})
		}
		read, _ := impl.ReadMesh(handed)
		// What is written into the bytes is not seen in what was read of them.
		fill(handed[:len(handed):len(handed)], 0)
		if !sameMeshes(read, clean) {
			t.Error(name, "is, written into the bytes,", read)
		}
		copy(memory, was)
		for n := range len(handed) {
			impl.ReadMesh(handed[:n])
			memory[3+n] ^= 129
			impl.ReadMesh(handed)
			memory[3+n] ^= 129
		}
		impl.ReadMesh(memory[3:])
		if !slices.Equal(memory, was) {
			t.Error(name, "was written into", memory)
		}
	}
}

func TestTreesShareNothing(t *testing.T) {
	d := dice(41)
	other := impl.Node{Box: crate(7, 7, 7, 8, 8, 8), Left: 7, Right: 8, Item: 9}
	for i := range 28 {
		list := d.crates(1+i, i%crateKinds)
		checkStays(t, "BuildTree", list, crate(7, 7, 7, 8, 8, 8), func(list []impl.Bx) []impl.Node { return firstOf(impl.BuildTree(list)) })
		tree, _ := impl.BuildTree(list)
		// Boxes written into later are not seen in a tree.
		told := slices.Clone(tree)
		b := around(list...)
		fill(list, impl.Bx{})
		if !slices.Equal(tree, told) {
			t.Error("the tree is now", tree, "not", told)
		}
		checkStays(t, "Overlaps", tree, other, func(tree []impl.Node) []int64 { return firstOf(impl.Overlaps(tree, b)) })
		checkStays(t, "the others", tree, other, func(tree []impl.Node) []any {
			n, ok1 := impl.Visited(tree, b)
			item, k, ok2 := impl.FirstHit(tree, v3(-9, 1, 1), v3(1, 0, 0))
			near, far, ok3 := impl.Closest(tree, v3(-9, 1, 1))
			return []any{impl.TreeOk(tree), n, ok1, item, k, ok2, near, far, ok3}
		})
		// What is refused is left as it was, too.
		bad := append(slices.Clone(tree), other)
		checkNoTree(t, "with another node", bad)
		impl.BuildTree(list)
	}
}
