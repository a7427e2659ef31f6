package tests

import (
	"math"
	"math/big"
	"reflect"
	"slices"
	"testing"

	"loop.example/g00022/impl"
)

// Promise 5.

func pointEdges(list []impl.Seg) []pointEdge {
	var edges []pointEdge
	for _, s := range list {
		edges = append(edges, pointEdge{pointOf(s.A), pointOf(s.B)})
	}
	return edges
}

// wantNet goes by the document's words, in big numbers and by trying; false when a place is no V.
func wantNet(list []impl.Seg) (impl.Net, bool) {
	edges := pointEdges(list)
	places := cutsOf(edges)
	var net impl.Net
	for _, p := range places {
		v, ok := p.place()
		if !ok {
			return impl.Net{}, false
		}
		net.Verts = append(net.Verts, v)
	}
	var pieces []pointEdge
	for _, p := range smallPieces(edges) {
		e := impl.NetEdge{From: int64(slices.IndexFunc(places, isAt(p.a))), To: int64(slices.IndexFunc(places, isAt(p.b)))}
		for i, whole := range edges {
			if isOn(p.a, whole.a, whole.b) && isOn(p.b, whole.a, whole.b) {
				e.Owners = append(e.Owners, int64(i))
			}
		}
		net.Edges = append(net.Edges, e)
		pieces = append(pieces, p, pointEdge{p.b, p.a})
	}
	net.Loops = wantLoops(pieces)
	return net, true
}

func isAt(p point) func(point) bool { return func(o point) bool { return p.cmp(o) == 0 } }

// wantLoops turns at the end of each half; the way back is a whole turn away.
func wantLoops(halves []pointEdge) [][]int64 {
	next := nextOf(halves)
	var loops [][]int64
	for i := range halves {
		if slices.ContainsFunc(loops, func(loop []int64) bool { return slices.Contains(loop, int64(i)) }) {
			continue
		}
		loop := []int64{int64(i)}
		for at := next[i]; at != i; at = next[at] {
			loop = append(loop, int64(at))
		}
		loops = append(loops, loop)
	}
	return loops
}

// wantParts counts the segments that reach no one ahead of them; what hangs together goes along with the least one.
func wantParts(list []impl.Seg) int64 {
	seen := make([]bool, len(list))
	var spread func(i int)
	spread = func(i int) {
		seen[i] = true
		for j := range list {
			if kind, _, _ := wantMeet(list[i], list[j]); kind != 0 && !seen[j] {
				spread(j)
			}
		}
	}
	count := int64(0)
	for i := range list {
		if !seen[i] {
			spread(i)
			count++
		}
	}
	return count
}

func sameNets(a, b impl.Net) bool {
	return slices.Equal(a.Verts, b.Verts) && slices.EqualFunc(a.Loops, b.Loops, slices.Equal) &&
		slices.EqualFunc(a.Edges, b.Edges, func(e, f impl.NetEdge) bool {
			return e.From == f.From && e.To == f.To && slices.Equal(e.Owners, f.Owners)
		})
}

func isNoNet(n impl.Net) bool { return reflect.DeepEqual(n, impl.Net{}) }

// checkNet holds against the oracle, and asks for what follows of each net.
func checkNet(t *testing.T, list []impl.Seg) (impl.Net, bool) {
	t.Helper()
	want, fine := wantNet(list)
	net, ok := impl.Arrange(list)
	if ok != fine || !sameNets(net, want) || !ok && !isNoNet(net) {
		t.Fatal(list, "make", net, ok, "not", want, fine)
	}
	parts, ok := impl.NetParts(list)
	if ok != fine || !ok && parts != 0 {
		t.Fatal(list, "have parts", parts, ok)
	}
	if !ok {
		return net, false
	}
	if parts != wantParts(list) || int64(len(net.Verts)-len(net.Edges)+len(net.Loops)) != 2*parts {
		t.Fatal(list, "have parts", parts, "not", wantParts(list), "or Euler's count is another one", net)
	}
	checkAreas(t, net)
	return net, true
}

func (p point) cross(o point) *big.Rat { return minusRat(timesRat(p.x, o.y), timesRat(o.x, p.y)) }

func halfOf(n impl.Net, half int64) (impl.V, impl.V) {
	e := n.Edges[half/2]
	if half%2 == 0 {
		return n.Verts[e.From], n.Verts[e.To]
	}
	return n.Verts[e.To], n.Verts[e.From]
}

// checkAreas holds each loop's area against the sum, and against the region that the loop goes round.
func checkAreas(t *testing.T, n impl.Net) {
	t.Helper()
	all := new(big.Rat)
	for k, loop := range n.Loops {
		area := new(big.Rat)
		var around []impl.V
		for _, half := range loop {
			from, to := halfOf(n, half)
			around = append(around, from)
			area = plusRat(area, pointOf(from).cross(pointOf(to)))
		}
		all = plusRat(all, area)
		want, fine := asQ(area)
		got, ok := impl.LoopArea2(n, int64(k))
		if fine = fine && len(loop) <= 400; !fine {
			want = impl.Q{}
		}
		if ok != fine || got != want {
			t.Fatal("loop", k, "of", n, "goes round", got, ok, "not", area)
		}
		if r, ok := impl.MakeRegion(lps(around)); ok && len(around) <= 100 {
			if size, _ := wantMass(pointLoops(r.Loops)); size.Cmp(new(big.Rat).Abs(area)) != 0 {
				t.Fatal("loop", k, "of", n, "goes round", r, "with", area)
			}
		}
	}
	if all.Sign() != 0 {
		t.Fatal("the loops of", n, "have together", all)
	}
}

func segs(list ...impl.Seg) []impl.Seg { return list }

// ways leads from place to place, with a segment for each step.
func ways(xy ...int64) []impl.Seg {
	var list []impl.Seg
	for i := 0; i+3 < len(xy); i += 2 {
		list = append(list, seg(xy[i], xy[i+1], xy[i+2], xy[i+3]))
	}
	return list
}

func boxSegs(left, low, right, high int64) []impl.Seg {
	return ways(left, low, right, low, right, high, left, high, left, low)
}

// netCases are segments with the numbers of vertices, edges, loops and parts that they should make.
func netCases() []struct {
	name                        string
	list                        []impl.Seg
	verts, edges, loops, pieces int
} {
	square := boxSegs(0, 0, 4, 4)
	return []struct {
		name                        string
		list                        []impl.Seg
		verts, edges, loops, pieces int
	}{
		{"nothing", nil, 0, 0, 0, 0},
		{"one", segs(seg(3, 1, 0, 0)), 2, 1, 1, 1},
		{"one upright", segs(seg(0, 5, 0, 1)), 2, 1, 1, 1},
		{"cross", segs(seg(0, 0, 2, 2), seg(0, 2, 2, 0)), 5, 4, 1, 1},
		{"touch within", segs(seg(0, 0, 4, 0), seg(2, 0, 2, 3)), 4, 3, 1, 1},
		{"touch within from both sides", segs(seg(0, 0, 4, 0), seg(2, 0, 2, 3), seg(1, -3, 2, 0)), 5, 4, 1, 1},
		{"end to end", segs(seg(0, 0, 4, 0), seg(4, 0, 5, 3)), 3, 2, 1, 1},
		{"end to end on a line", segs(seg(0, 0, 2, 0), seg(5, 0, 2, 0)), 3, 2, 1, 1},
		{"end to end on an upright line", segs(seg(0, 3, 0, 0), seg(0, 3, 0, 4)), 3, 2, 1, 1},
		{"on a line, apart", segs(seg(0, 0, 2, 2), seg(3, 3, 5, 5)), 4, 2, 2, 2},
		{"over in part", segs(seg(0, 0, 2, 0), seg(3, 0, 1, 0)), 4, 3, 1, 1},
		{"over wholly", segs(seg(1, 1, 2, 2), seg(5, 5, 0, 0)), 4, 3, 1, 1},
		{"over with an end in common", segs(seg(0, 0, 0, 5), seg(0, 2, 0, 0)), 3, 2, 1, 1},
		{"the same twice", segs(seg(0, 0, 2, 1), seg(0, 0, 2, 1)), 2, 1, 1, 1},
		{"the same the other way round", segs(seg(0, 0, 2, 1), seg(2, 1, 0, 0), seg(0, 0, 2, 1)), 2, 1, 1, 1},
		{"three over one another", segs(seg(0, 0, 6, 0), seg(8, 0, 2, 0), seg(4, 0, 9, 0)), 6, 5, 1, 1},
		{"several through one place", segs(seg(-2, 0, 2, 0), seg(0, -2, 0, 2), seg(-2, -2, 2, 2), seg(-2, 2, 2, -2), seg(0, 0, 1, 3)), 10, 9, 1, 1},
		{"a crossing on an overlap", segs(seg(0, 0, 4, 0), seg(1, 0, 5, 0), seg(2, -1, 2, 1)), 7, 6, 1, 1},
		{"a way", ways(0, 0, 3, 1, 1, 4, -2, 2), 4, 3, 1, 1},
		{"a triangle", ways(0, 0, 4, 0, 0, 2, 0, 0), 3, 3, 2, 1},
		{"a square with both diagonals", append(segs(seg(0, 0, 4, 4), seg(4, 0, 0, 4)), square...), 5, 8, 5, 1},
		{"a square with a spike inside", append(segs(seg(0, 0, 1, 1)), square...), 5, 5, 2, 1},
		{"a square with a spike outside", append(segs(seg(4, 4, 5, 9)), square...), 5, 5, 2, 1},
		{"a square in a square", append(boxSegs(1, 1, 3, 3), square...), 8, 8, 4, 2},
		{"a segment in a square", append(segs(seg(1, 1, 3, 2)), square...), 6, 5, 3, 2},
		{"a square beside a square", append(boxSegs(6, 0, 7, 1), square...), 8, 8, 4, 2},
		{"two squares that cross", append(boxSegs(2, 2, 6, 6), square...), 10, 12, 4, 1},
		{"two squares with a corner in common", append(boxSegs(4, 4, 6, 6), square...), 7, 8, 3, 1},
		{"two squares with an edge in common", append(boxSegs(4, 0, 8, 4), square...), 6, 7, 3, 1},
		{"a corner on an edge", append(ways(2, 0, 1, -2, 3, -2, 2, 0), square...), 7, 8, 3, 1},
		{"two squares with a bridge", slices.Concat(boxSegs(6, 0, 8, 4), square, segs(seg(4, 2, 6, 2))), 10, 11, 3, 1},
		{"great", segs(seg(-top, -top, top, top), seg(-top, top, top, -top), seg(-top, -top, -top, top)), 5, 5, 2, 1},
	}
}

func TestNetsByHand(t *testing.T) {
	for _, c := range netCases() {
		net, ok := checkNet(t, c.list)
		parts, _ := impl.NetParts(c.list)
		if !ok || len(net.Verts) != c.verts || len(net.Edges) != c.edges || len(net.Loops) != c.loops || parts != int64(c.pieces) {
			t.Error(c.name, net, parts, ok)
		}
		// In another order and direction the same places and edges; the owners go along.
		n := len(c.list)
		var other []impl.Seg
		for _, s := range c.list {
			other = slices.Insert(other, 0, turned(s))
		}
		again, _ := checkNet(t, other)
		for i, e := range again.Edges {
			for k, owner := range e.Owners {
				e.Owners[k] = int64(n) - 1 - owner
			}
			slices.Sort(e.Owners)
			again.Edges[i] = e
		}
		if !sameNets(again, net) {
			t.Error(c.name, "the other way round", again, "not", net)
		}
	}
	if impl.MaxSegs != 60 || impl.MaxWalk != 400 {
		t.Error("MaxSegs or MaxWalk have changed")
	}
}

func edge(from, to int64, owners ...int64) impl.NetEdge {
	return impl.NetEdge{From: from, To: to, Owners: owners}
}

func TestWholeNetsByHand(t *testing.T) {
	for _, c := range []struct {
		list  []impl.Seg
		want  impl.Net
		areas []impl.Q
	}{
		{segs(seg(0, 0, 2, 2), seg(0, 2, 2, 0)), impl.Net{
			Verts: lp(0, 0, 0, 2, 1, 1, 2, 0, 2, 2),
			Edges: []impl.NetEdge{edge(0, 2, 0), edge(1, 2, 1), edge(2, 3, 1), edge(2, 4, 0)},
			Loops: [][]int64{{0, 3, 2, 6, 7, 4, 5, 1}},
		}, []impl.Q{q(0, 1)}},
		{ways(4, 0, 0, 2, 0, 0, 4, 0), impl.Net{
			Verts: lp(0, 0, 0, 2, 4, 0),
			Edges: []impl.NetEdge{edge(0, 1, 1), edge(0, 2, 2), edge(1, 2, 0)},
			Loops: [][]int64{{0, 4, 3}, {1, 2, 5}},
		}, []impl.Q{q(-8, 1), q(8, 1)}},
		// A square whose lower edge is covered by two, with a spike inside and a bare piece within it.
		{segs(seg(0, 0, 3, 0), seg(6, 0, 1, 0), seg(6, 6, 6, 0), seg(0, 6, 6, 6), seg(0, 0, 0, 6), seg(6, 6, 5, 5), seg(2, 2, 2, 3)), impl.Net{
			Verts: lp(0, 0, 0, 6, 1, 0, 2, 2, 2, 3, 3, 0, 5, 5, 6, 0, 6, 6),
			Edges: []impl.NetEdge{edge(0, 1, 4), edge(0, 2, 0), edge(1, 8, 3), edge(2, 5, 0, 1), edge(3, 4, 6), edge(5, 7, 1), edge(6, 8, 5), edge(7, 8, 2)},
			Loops: [][]int64{{0, 4, 15, 11, 7, 3}, {1, 2, 6, 10, 14, 13, 12, 5}, {8, 9}},
		}, []impl.Q{q(-72, 1), q(72, 1), q(0, 1)}},
	} {
		net, ok := impl.Arrange(c.list)
		if !ok || !sameNets(net, c.want) {
			t.Error(c.list, "make", net, ok, "not", c.want)
		}
		for k, area := range c.areas {
			if got, ok := impl.LoopArea2(net, int64(k)); !ok || got != area {
				t.Error("loop", k, "of", net, "goes round", got, ok, "not", area)
			}
		}
	}
}

func TestNetsMany(t *testing.T) {
	made, refused := 0, 0
	for kind := range spotKinds {
		s := &spots{dice(4100 + kind), kind}
		for range []int{150, 60, 60, 30, 30}[kind] {
			var list []impl.Seg
			for range s.next() % uint64(10-kind) {
				o := s.seg()
				if k := s.next(); len(list) > 0 && k%3 == 0 {
					// From a place of another one.
					if o.A = list[k%uint64(len(list))].B; o.A == o.B {
						o = list[0]
					}
				}
				list = append(list, o)
			}
			if _, ok := checkNet(t, list); ok {
				made++
			} else {
				refused++
			}
			for range 4 {
				checkAbove(t, list, s.place())
			}
		}
	}
	if made < 200 || refused < 30 {
		t.Error("too few of a kind", made, refused)
	}
	// Many at once, on a grid, so that there are parts and overlaps of all kinds.
	s := &spots{dice(99), 0}
	var list []impl.Seg
	for range 24 {
		a := s.place()
		list = append(list, impl.Seg{A: a, B: impl.V{X: q(a.X.Num+1+int64(s.next()%2), 1), Y: q(a.Y.Num+s.upTo(1), 1)}})
	}
	checkNet(t, list)
}

// rays are n segments of which no two meet.
func rays(n int64) []impl.Seg {
	var list []impl.Seg
	for i := range n {
		list = append(list, seg(i, 0, i, 1+i%3))
	}
	return list
}

func TestMostSegments(t *testing.T) {
	for name, list := range map[string][]impl.Seg{"apart": rays(60), "the same": slices.Repeat(segs(seg(0, 0, 1, 1)), 60)} {
		net, ok := impl.Arrange(list)
		parts, fine := impl.NetParts(list)
		if !ok || !fine || len(net.Edges) != int(parts) || len(net.Edges[0].Owners) != 60/len(net.Edges) {
			t.Error("60", name, net, parts)
		}
		if i, v, ok := impl.Above(list, at(0, -5)); !ok || i != 0 || v != at(0, 0) {
			t.Error("above", name, i, v, ok)
		}
		list = append(list, seg(0, 0, 1, 1))
		checkNoNet(t, name, list, at(0, -5))
	}
	// As many crossings as there can be: each two of them.
	var all []impl.Seg
	for i := range int64(60) {
		all = append(all, seg(0, i*i, 1, -i*i*i))
	}
	net, ok := impl.Arrange(all)
	parts, fine := impl.NetParts(all)
	if !ok || !fine || parts != 1 || len(net.Verts)-len(net.Edges)+len(net.Loops) != 2 || len(net.Edges) < 3000 {
		t.Error("all cross", len(net.Verts), len(net.Edges), len(net.Loops), parts, ok)
	}
	rights := 0
	for k, loop := range net.Loops {
		area, ok := impl.LoopArea2(net, int64(k))
		if !ok && len(loop) <= 400 {
			t.Error("loop", k, "has no area")
		}
		if area.Num < 0 {
			rights++
		}
	}
	if rights > 1 {
		t.Error(rights, "loops go round the whole")
	}
}

// checkNoNet asks that a list is refused wherever one is taken.
func checkNoNet(t *testing.T, name any, list []impl.Seg, v impl.V) {
	t.Helper()
	if net, ok := impl.Arrange(list); ok || !isNoNet(net) {
		t.Error(name, "is arranged", net, ok)
	}
	if n, ok := impl.NetParts(list); ok || n != 0 {
		t.Error(name, "has parts", n, ok)
	}
	checkNothingAbove(t, name, list, v)
}

func checkNothingAbove(t *testing.T, name any, list []impl.Seg, v impl.V) {
	t.Helper()
	if i, p, ok := impl.Above(list, v); ok || i != -1 || p != (impl.V{}) {
		t.Error(name, "is met going up", i, p, ok)
	}
}

func TestCrossingOfNetThatIsNoPlace(t *testing.T) {
	half := impl.Seg{A: impl.V{X: q(1, 2), Y: q(-1, 1)}, B: impl.V{X: q(1, 2), Y: q(1, 1)}}
	flat := seg(0, 0, top-1, 1)
	for name, list := range map[string][]impl.Seg{
		"Y is no Q":            {half, flat},
		"X is no Q":            {swappedSeg(half), swappedSeg(flat)},
		"the other way round":  {turned(flat), turned(half)},
		"the last two of many": append(rays(30), half, flat),
	} {
		if net, ok := impl.Arrange(list); ok || !isNoNet(net) {
			t.Error(name, net)
		}
		if n, ok := impl.NetParts(list); ok || n != 0 {
			t.Error(name, n)
		}
	}
	// Above does not make a net: what crosses elsewhere does not matter, what is met first does.
	list := segs(half, flat, seg(0, 5, 9, 5))
	for v, want := range map[impl.V]int64{at(0, -5): 1, at(0, 1): 2, at(7, 3): 2, {X: q(1, 2), Y: q(-2, 1)}: 0, {X: q(1, 2), Y: q(1, 2)}: 0} {
		if i, _, ok := impl.Above(list, v); !ok || i != want {
			t.Error("above", v, "is", i, ok)
		}
		checkAbove(t, list, v)
	}
	third := impl.V{X: q(1, 3), Y: q(0, 1)}
	checkNothingAbove(t, "a place that is no V, with a good one behind it", list, third)
	checkAbove(t, list, third)
	// At a denominator that is just MaxNum.
	if i, v, ok := impl.Above(segs(seg(0, 0, top, 1)), at(1, 0)); !ok || i != 0 || v != (impl.V{X: q(1, 1), Y: q(1, top)}) {
		t.Error("a denominator that is MaxNum", i, v, ok)
	}
	if net, ok := impl.Arrange(segs(seg(0, 0, top, 1), seg(1, -1, 1, 1))); !ok || len(net.Edges) != 4 || net.Verts[2] != (impl.V{X: q(1, 1), Y: q(1, top)}) {
		t.Error("a crossing of which the denominator is MaxNum", net, ok)
	}
	below := impl.Seg{A: impl.V{X: q(1, 2), Y: q(-1, 1)}, B: impl.V{X: q(1, 2), Y: q(0, 1)}}
	if n, ok := impl.NetParts(segs(below, flat)); !ok || n != 2 {
		t.Error("lines that cross beyond an end", n, ok)
	}
}

// wantAbove looks at the upright line through v: where it crosses, at ends on it, and at v itself.
func wantAbove(list []impl.Seg, v impl.V) (int64, impl.V, bool) {
	p := pointOf(v)
	up := point{p.x, plusRat(p.y, big.NewRat(1, 1))}
	first, best := int64(-1), point{}
	for i, e := range pointEdges(list) {
		met := metAlong(p, up, e)
		if isOn(p, e.a, e.b) {
			met = append(met, p)
		}
		for _, m := range met {
			if m.y.Cmp(p.y) >= 0 && (first < 0 || m.y.Cmp(best.y) < 0) {
				first, best = int64(i), m
			}
		}
	}
	if first < 0 {
		return -1, impl.V{}, false
	}
	if place, ok := best.place(); ok {
		return first, place, true
	}
	return -1, impl.V{}, false
}

func checkAbove(t *testing.T, list []impl.Seg, v impl.V) {
	t.Helper()
	i, p, ok := impl.Above(list, v)
	if first, place, fine := wantAbove(list, v); i != first || p != place || ok != fine {
		t.Fatal("above", v, "is of", list, i, p, ok, "not", first, place, fine)
	}
}

func TestAboveByHand(t *testing.T) {
	list := segs(seg(0, 0, 6, 0), seg(0, 4, 6, 4), seg(6, 4, 0, 4), seg(0, 1, 6, 7), seg(3, 9, 3, 7), seg(8, 2, 8, 5), seg(8, 3, 8, 9), seg(9, 9, 9, 6), seg(8, 0, 9, 1))
	for _, c := range []struct {
		v    impl.V
		want int64
		at   impl.V
	}{
		{at(1, -1), 0, at(1, 0)}, {at(1, 0), 0, at(1, 0)}, {at(1, 1), 3, at(1, 2)}, {at(1, 2), 3, at(1, 2)}, {at(1, 3), 1, at(1, 4)}, {at(1, 4), 1, at(1, 4)}, {at(1, 5), -1, impl.V{}},
		{at(3, 4), 1, at(3, 4)}, {at(3, 1), 1, at(3, 4)}, {at(3, 5), 4, at(3, 7)}, {at(3, 7), 4, at(3, 7)}, {at(3, 8), 4, at(3, 8)}, {at(3, 9), 4, at(3, 9)}, {at(3, 10), -1, impl.V{}},
		{at(0, -1), 0, at(0, 0)}, {at(0, 1), 3, at(0, 1)}, {at(0, 2), 1, at(0, 4)}, {at(6, 1), 1, at(6, 4)}, {at(6, 5), 3, at(6, 7)}, {at(6, 8), -1, impl.V{}}, {at(-1, 0), -1, impl.V{}}, {at(7, 0), -1, impl.V{}},
		{at(8, -3), 8, at(8, 0)}, {at(8, 1), 5, at(8, 2)}, {at(8, 2), 5, at(8, 2)}, {at(8, 3), 5, at(8, 3)}, {at(8, 5), 5, at(8, 5)}, {at(8, 6), 6, at(8, 6)}, {at(8, 9), 6, at(8, 9)}, {at(8, 10), -1, impl.V{}},
		{at(9, 0), 8, at(9, 1)}, {at(9, 2), 7, at(9, 6)}, {impl.V{X: q(5, 2), Y: q(1, 1)}, 3, impl.V{X: q(5, 2), Y: q(7, 2)}},
	} {
		if i, p, ok := impl.Above(list, c.v); i != c.want || p != c.at || ok != (c.want >= 0) {
			t.Error("above", c.v, i, p, ok, "not", c.want, c.at)
		}
		checkAbove(t, list, c.v)
	}
	checkNothingAbove(t, "nothing", nil, at(0, 0))
}

func TestAboveMany(t *testing.T) {
	for kind := range spotKinds {
		s := &spots{dice(70 + kind), kind}
		for range 150 {
			var list []impl.Seg
			for range s.next() % 6 {
				list = append(list, s.seg())
			}
			checkAbove(t, list, s.place())
			if len(list) > 1 {
				// Above, below and on what there is.
				checkAbove(t, list, impl.V{X: list[0].A.X, Y: list[1].B.Y})
				checkAbove(t, list, list[0].B)
				checkAbove(t, append(list, impl.Seg{A: list[0].A, B: impl.V{X: list[0].A.X, Y: q(55, 1)}}), impl.V{X: list[0].A.X, Y: list[1].B.Y})
			}
		}
	}
}

// walked is a net with a loop of the halves.
func walked(n impl.Net, halves ...int64) impl.Net {
	n.Loops = [][]int64{{0}, halves}
	return n
}

func TestLoopsThatWereNotMade(t *testing.T) {
	n := impl.Net{Verts: lp(0, 0, 0, 2, 3, 0, 7, 5), Edges: []impl.NetEdge{edge(0, 1), edge(2, 1, 9, -4), edge(2, 3, 7), edge(3, 3), edge(0, 0)}}
	for _, c := range []struct {
		halves []int64
		want   int64
	}{
		{nil, 0}, {[]int64{}, 0}, {[]int64{2}, 6}, {[]int64{3}, -6}, {[]int64{2, 2, 2}, 18}, {[]int64{2, 3}, 0}, {[]int64{4}, 15}, {[]int64{5, 2}, -9},
		{[]int64{0, 1, 6, 7, 8, 9}, 0}, {[]int64{4, 0, 4, 2}, 36}, {slices.Repeat([]int64{4}, 400), 6000}, {slices.Repeat([]int64{2, 5}, 200), -1800},
	} {
		if area, ok := impl.LoopArea2(walked(n, c.halves...), 1); !ok || area != q(c.want, 1) {
			t.Error(c.halves, "go round", area, ok, "not", c.want)
		}
	}
	// What is wrong with another loop does not matter.
	bad := walked(n, slices.Repeat([]int64{-1, 99}, 300)...)
	if area, ok := impl.LoopArea2(bad, 0); !ok || area != q(0, 1) {
		t.Error("beside a wrong loop", area, ok)
	}
	if area, ok := impl.LoopArea2(impl.Net{Loops: [][]int64{nil}}, 0); !ok || area != q(0, 1) {
		t.Error("a loop of nothing", area, ok)
	}
	checkNoArea(t, "a half of no edges", impl.Net{Loops: [][]int64{{0}}}, 0)
	checkNoArea(t, "MaxWalk passed by one", walked(n, slices.Repeat([]int64{0}, 401)...), 1)
	for _, k := range []int64{-1, 2, 3, math.MinInt64, math.MaxInt64} {
		checkNoArea(t, "no such loop", walked(n, 0), k)
	}
	checkNoArea(t, "no loops", n, 0)
	for _, half := range []int64{-1, 10, 11, math.MinInt64, math.MaxInt64, math.MinInt64 + 1} {
		checkNoArea(t, "a half that is none", walked(n, 0, half), 1)
		checkNoArea(t, "a half that is none", walked(n, half, 2, 4), 1)
	}
}

func checkNoArea(t *testing.T, name any, n impl.Net, k int64) {
	t.Helper()
	if area, ok := impl.LoopArea2(n, k); ok || area != (impl.Q{}) {
		t.Error(name, k, "has the area", area, ok)
	}
}

func TestBrokenLoops(t *testing.T) {
	clean := func() impl.Net {
		return impl.Net{Verts: lp(0, 0, 0, 2, 3, 0, 7, 5), Edges: []impl.NetEdge{edge(0, 1), edge(2, 1), edge(2, 3)}, Loops: [][]int64{{0}, {}}}
	}
	for k := range int64(2) {
		if area, ok := impl.LoopArea2(clean(), k); !ok || area != q(0, 1) {
			t.Error("clean", area, ok)
		}
		// Also those that the loop does not come by.
		for i := range 4 {
			for _, bad := range brokenFractions() {
				n := clean()
				n.Verts[i].X = bad
				checkNoArea(t, n, n, k)
				n = clean()
				n.Verts[i].Y = bad
				checkNoArea(t, n, n, k)
			}
		}
		for i := range 3 {
			for _, p := range []int64{-1, 4, 5, math.MinInt64, math.MaxInt64} {
				n := clean()
				n.Edges[i].From = p
				checkNoArea(t, n, n, k)
				n = clean()
				n.Edges[i].To = p
				checkNoArea(t, n, n, k)
			}
		}
	}
}

func TestGreatLoopAreas(t *testing.T) {
	for _, c := range []struct {
		name string
		list []impl.Seg
		want impl.Q
	}{
		{"just MaxNum", ways(0, 0, 1000000000, 0, 0, 1000000000, 0, 0), q(top, 1)},
		{"above MaxNum", ways(0, 0, 1000000000, 0, 0, 1000000001, 0, 0), impl.Q{}},
		{"as great as can be", boxSegs(-top, -top, top, top), impl.Q{}},
		{"a slight one of great numbers", ways(-top, -top, top, top, top, top-1, -top, -top), impl.Q{}},
		{"1 of great numbers", ways(0, 0, top, top-1, top-1, top-2, 0, 0), q(-1, 1)},
	} {
		net, ok := impl.Arrange(c.list)
		if !ok || len(net.Loops) != 2 {
			t.Fatal(c.name, net)
		}
		first, ok1 := impl.LoopArea2(net, 0)
		last, ok2 := impl.LoopArea2(net, 1)
		fine := c.want.Den != 0
		if ok1 != fine || ok2 != fine || first != q(-c.want.Num, c.want.Den) || last != c.want {
			t.Error(c.name, first, last, ok1, ok2)
		}
		checkAreas(t, net)
	}
	// The sum is told, not what comes up on the way: there and back along a great one.
	n := impl.Net{Verts: lp(top, -top, top, top, 1, 0, 0, 1), Edges: []impl.NetEdge{edge(0, 1), edge(2, 3)}, Loops: [][]int64{{0, 2, 1}, {0}}}
	if area, ok := impl.LoopArea2(n, 0); !ok || area != q(1, 1) {
		t.Error("there and back", area, ok)
	}
	checkNoArea(t, "there alone", n, 1)
}

// brokenSegs has each field of s broken in turn, and the ends alike.
func brokenSegs(s impl.Seg) []impl.Seg {
	list := segs(impl.Seg{A: s.A, B: s.A}, impl.Seg{A: s.B, B: s.B}, impl.Seg{})
	for _, bad := range brokenFractions() {
		one, two, three, four := s, s, s, s
		one.A.X, two.A.Y, three.B.X, four.B.Y = bad, bad, bad, bad
		list = append(list, one, two, three, four)
	}
	return list
}

func TestBrokenSegments(t *testing.T) {
	clean := segs(seg(0, 0, 4, 0), seg(1, 3, 2, 7), seg(0, 9, 5, 9))
	for k := range clean {
		for _, bad := range brokenSegs(clean[k]) {
			list := slices.Clone(clean)
			list[k] = bad
			checkNoNet(t, bad, list, at(1, 0))
			checkNoNet(t, bad, segs(bad), at(1, 0))
		}
	}
	for _, v := range brokenPlaces() {
		checkNothingAbove(t, v, clean, v)
		checkNothingAbove(t, v, nil, v)
	}
}
