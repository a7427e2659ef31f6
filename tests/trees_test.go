package tests

import (
	"math/big"
	"slices"
	"testing"

	"loop.example/g00022/impl"
)

// Promise 17: trees.

func crate(a, b, c, d, e, f int64) impl.Bx { return impl.Bx{Lo: v3(a, b, c), Hi: v3(d, e, f)} }

// around tells the least box with all of these.
func around(list ...impl.Bx) impl.Bx {
	all := list[0]
	least := func(a, b impl.Q) impl.Q {
		if rat(a).Cmp(rat(b)) > 0 {
			return b
		}
		return a
	}
	most := func(a, b impl.Q) impl.Q {
		if rat(a).Cmp(rat(b)) < 0 {
			return b
		}
		return a
	}
	for _, b := range list {
		all.Lo = impl.V3{X: least(all.Lo.X, b.Lo.X), Y: least(all.Lo.Y, b.Lo.Y), Z: least(all.Lo.Z, b.Lo.Z)}
		all.Hi = impl.V3{X: most(all.Hi.X, b.Hi.X), Y: most(all.Hi.Y, b.Hi.Y), Z: most(all.Hi.Z, b.Hi.Z)}
	}
	return all
}

// longestOf is 0, 1 or 2: the first of those in which no other is longer.
func longestOf(b impl.Bx) int {
	size := point3Of(b.Hi).minus(point3Of(b.Lo))
	for i := range 2 {
		if size[i].Cmp(size[i+1]) >= 0 && size[i].Cmp(size[2]) >= 0 {
			return i
		}
	}
	return 2
}

func doubleMiddle(b impl.Bx, along int) *big.Rat {
	return plusRat(point3Of(b.Lo)[along], point3Of(b.Hi)[along])
}

// wantTree goes by the document's words, in big numbers.
func wantTree(list []impl.Bx) []impl.Node {
	var nodes []impl.Node
	var put func(items []int64) int64
	put = func(items []int64) int64 {
		at := len(nodes)
		if len(items) == 1 {
			nodes = append(nodes, impl.Node{Box: list[items[0]], Left: -1, Right: -1, Item: items[0]})
			return int64(at)
		}
		var boxes []impl.Bx
		for _, i := range items {
			boxes = append(boxes, list[i])
		}
		all := around(boxes...)
		along := longestOf(all)
		nodes = append(nodes, impl.Node{Box: all, Item: -1})
		items = slices.Clone(items)
		slices.Sort(items)
		slices.SortStableFunc(items, func(i, k int64) int { return doubleMiddle(list[i], along).Cmp(doubleMiddle(list[k], along)) })
		left, right := items[:len(items)/2], items[len(items)/2:]
		if len(items)%2 == 1 {
			left, right = items[:len(items)/2+1], items[len(items)/2+1:]
		}
		low := put(left)
		high := put(right)
		nodes[at].Left, nodes[at].Right = low, high
		return int64(at)
	}
	var all []int64
	for i := range list {
		all = append(all, int64(i))
	}
	put(all)
	return nodes
}

// isTree holds each node against those below it, without a tree being built.
func isTree(t []impl.Node) bool {
	leaves := map[int64]impl.Bx{}
	var look func(at int) (items []int64, next int, fine bool)
	look = func(at int) ([]int64, int, bool) {
		if at >= len(t) {
			return nil, 0, false
		}
		n := t[at]
		if n.Item >= 0 {
			_, known := leaves[n.Item]
			leaves[n.Item] = n.Box
			return []int64{n.Item}, at + 1, !known && n.Left == -1 && n.Right == -1 && isCrate(n.Box)
		}
		left, middle, fine := look(at + 1)
		if !fine || n.Item != -1 || n.Left != int64(at+1) || n.Right != int64(middle) {
			return nil, 0, false
		}
		right, next, fine := look(middle)
		if !fine || len(left) != len(right) && len(left) != len(right)+1 {
			return nil, 0, false
		}
		var boxes []impl.Bx
		for _, i := range slices.Concat(left, right) {
			boxes = append(boxes, leaves[i])
		}
		if around(boxes...) != n.Box {
			return nil, 0, false
		}
		along := longestOf(n.Box)
		for _, i := range left {
			for _, k := range right {
				if c := doubleMiddle(leaves[i], along).Cmp(doubleMiddle(leaves[k], along)); c > 0 || c == 0 && i > k {
					return nil, 0, false
				}
			}
		}
		return slices.Concat(left, right), next, true
	}
	items, next, fine := look(0)
	return fine && next == len(t) && len(items) <= 60 && slices.Max(items) == int64(len(items)-1)
}

func isCrate(b impl.Bx) bool {
	if !impl.V3Ok(b.Lo) || !impl.V3Ok(b.Hi) {
		return false
	}
	lo, hi := point3Of(b.Lo), point3Of(b.Hi)
	return lo[0].Cmp(hi[0]) <= 0 && lo[1].Cmp(hi[1]) <= 0 && lo[2].Cmp(hi[2]) <= 0
}

// halvingsOf is how often n is halved, the greater half taken, until there is one.
func halvingsOf(n int) int {
	count := 0
	for ; n > 1; n = (n + 1) / 2 {
		count++
	}
	return count
}

func depthOf(t []impl.Node, at int64) int {
	if t[at].Item >= 0 {
		return 0
	}
	return 1 + max(depthOf(t, t[at].Left), depthOf(t, t[at].Right))
}

func checkTree(t *testing.T, name any, list []impl.Bx) []impl.Node {
	t.Helper()
	want := wantTree(list)
	tree, ok := impl.BuildTree(list)
	if !ok || !slices.Equal(tree, want) {
		t.Fatal(name, list, "has the tree", tree, ok, "not", want)
	}
	if !impl.TreeOk(tree) || !isTree(tree) || len(tree) != 2*len(list)-1 || depthOf(tree, 0) > halvingsOf(len(list)) {
		t.Fatal(name, "has a tree that is none", tree, depthOf(tree, 0))
	}
	return tree
}

// shiftedQ is f and a number of a place more; by itself where that is no Q.
func shiftedQ(f impl.Q, by *big.Rat) impl.Q {
	if g, ok := asQ(plusRat(rat(f), by)); ok {
		return g
	}
	return f
}

const crateKinds = 7

// crates are boxes of one kind: small ones, those of fractions, flat ones, some alike, some with the same middle, great ones,
// cubes in a row.
func (d *dice) crates(n, kind int) []impl.Bx {
	var list []impl.Bx
	for i := range n {
		lo := whole3(d.upTo(5), d.upTo(5), d.upTo(5))
		size := whole3(1+int64(d.next()%4), 1+int64(d.next()%4), 1+int64(d.next()%4))
		switch kind {
		case 1:
			lo, size = fraction3(d.upTo(30), d.upTo(30), d.upTo(30), 1+int64(d.next()%7)), fraction3(int64(d.next()%9), int64(d.next()%9), int64(d.next()%9), 1+int64(d.next()%5))
		case 2:
			for k := range size {
				if d.next()%2 == 0 {
					size[k] = new(big.Rat)
				}
			}
		case 3:
			if i > 0 && d.next()%2 == 0 {
				list = append(list, list[d.next()%uint64(i)])
				continue
			}
		case 4:
			lo = size.times(big.NewRat(-1, 2)).plus(whole3(int64(d.next()%2), 0, 0))
		case 5:
			low, high := d.anySize(top), d.anySize(top)
			other, more := d.fraction(), d.fraction()
			b := around(impl.Bx{Lo: v3(low, 1, 2), Hi: v3(low, 1, 2)}, impl.Bx{Lo: v3(high, 5, 2), Hi: v3(high, 5, 3)}, impl.Bx{Lo: impl.V3{X: other, Y: more, Z: other}, Hi: impl.V3{X: other, Y: more, Z: other}})
			list = append(list, b)
			continue
		case 6:
			lo, size = whole3(2*int64(i), 0, 0), whole3(1, 1, 1)
		}
		from, _ := lo.place()
		to, _ := lo.plus(size).place()
		list = append(list, impl.Bx{Lo: from, Hi: to})
	}
	return list
}

func TestTreesByHand(t *testing.T) {
	leaf := func(b impl.Bx, item int64) impl.Node { return impl.Node{Box: b, Left: -1, Right: -1, Item: item} }
	node := func(b impl.Bx, left, right int64) impl.Node {
		return impl.Node{Box: b, Left: left, Right: right, Item: -1}
	}
	a, b, c := crate(0, 0, 0, 1, 1, 1), crate(4, 0, 0, 5, 1, 1), crate(2, 0, 0, 3, 1, 1)
	one := crate(0, 0, 0, 0, 0, 0)
	for _, o := range []struct {
		name string
		list []impl.Bx
		want []impl.Node
	}{
		{"one", []impl.Bx{b}, []impl.Node{leaf(b, 0)}},
		{"one flat", []impl.Bx{one}, []impl.Node{leaf(one, 0)}},
		{"two", []impl.Bx{a, b}, []impl.Node{node(crate(0, 0, 0, 5, 1, 1), 1, 2), leaf(a, 0), leaf(b, 1)}},
		{"two the other way", []impl.Bx{b, a}, []impl.Node{node(crate(0, 0, 0, 5, 1, 1), 1, 2), leaf(a, 1), leaf(b, 0)}},
		{"two alike", []impl.Bx{a, a}, []impl.Node{node(a, 1, 2), leaf(a, 0), leaf(a, 1)}},
		{"three", []impl.Bx{a, b, c}, []impl.Node{node(crate(0, 0, 0, 5, 1, 1), 1, 4), node(crate(0, 0, 0, 3, 1, 1), 2, 3), leaf(a, 0), leaf(c, 2), leaf(b, 1)}},
		{"three alike", []impl.Bx{a, a, a}, []impl.Node{node(a, 1, 4), node(a, 2, 3), leaf(a, 0), leaf(a, 1), leaf(a, 2)}},
		{"three flat ones at one place", []impl.Bx{one, one, one}, []impl.Node{node(one, 1, 4), node(one, 2, 3), leaf(one, 0), leaf(one, 1), leaf(one, 2)}},
		// Longest along Z, then along Y.
		{"four", []impl.Bx{crate(0, 0, 9, 1, 1, 10), crate(0, 3, 0, 1, 4, 1), crate(0, 0, 0, 1, 1, 1), crate(0, 3, 9, 1, 4, 10)}, []impl.Node{node(crate(0, 0, 0, 1, 4, 10), 1, 4),
			node(crate(0, 0, 0, 1, 4, 1), 2, 3), leaf(crate(0, 0, 0, 1, 1, 1), 2), leaf(crate(0, 3, 0, 1, 4, 1), 1), node(crate(0, 0, 9, 1, 4, 10), 5, 6), leaf(crate(0, 0, 9, 1, 1, 10), 0), leaf(crate(0, 3, 9, 1, 4, 10), 3)}},
		// As long along X as along Y: X; along Y as along Z: Y; along all three: X; along X as along Z: X.
		{"X and Y", []impl.Bx{crate(4, 0, 0, 5, 1, 1), crate(0, 4, 0, 1, 5, 1)}, []impl.Node{node(crate(0, 0, 0, 5, 5, 1), 1, 2), leaf(crate(0, 4, 0, 1, 5, 1), 1), leaf(crate(4, 0, 0, 5, 1, 1), 0)}},
		{"Y and Z", []impl.Bx{crate(0, 4, 0, 1, 5, 1), crate(0, 0, 4, 1, 1, 5)}, []impl.Node{node(crate(0, 0, 0, 1, 5, 5), 1, 2), leaf(crate(0, 0, 4, 1, 1, 5), 1), leaf(crate(0, 4, 0, 1, 5, 1), 0)}},
		{"X and Z", []impl.Bx{crate(4, 0, 0, 5, 1, 1), crate(0, 0, 4, 1, 1, 5)}, []impl.Node{node(crate(0, 0, 0, 5, 1, 5), 1, 2), leaf(crate(0, 0, 4, 1, 1, 5), 1), leaf(crate(4, 0, 0, 5, 1, 1), 0)}},
		{"all three", []impl.Bx{crate(4, 0, 0, 5, 1, 1), crate(0, 4, 4, 1, 5, 5)}, []impl.Node{node(crate(0, 0, 0, 5, 5, 5), 1, 2), leaf(crate(0, 4, 4, 1, 5, 5), 1), leaf(crate(4, 0, 0, 5, 1, 1), 0)}},
		// The middle decides, not the lower end.
		{"a long one", []impl.Bx{crate(0, 0, 0, 9, 1, 1), crate(1, 0, 0, 2, 1, 1)}, []impl.Node{node(crate(0, 0, 0, 9, 1, 1), 1, 2), leaf(crate(1, 0, 0, 2, 1, 1), 1), leaf(crate(0, 0, 0, 9, 1, 1), 0)}},
		{"the same middle", []impl.Bx{crate(1, 0, 0, 3, 1, 1), crate(0, 0, 0, 4, 1, 1)}, []impl.Node{node(crate(0, 0, 0, 4, 1, 1), 1, 2), leaf(crate(1, 0, 0, 3, 1, 1), 0), leaf(crate(0, 0, 0, 4, 1, 1), 1)}},
		// Middles and lengths that are no Qs.
		{"great", []impl.Bx{crate(top-1, 0, 0, top, 0, 0), crate(top-2, 0, 0, top, 0, 0), crate(-top, 0, 0, -top, 0, 0)}, []impl.Node{node(crate(-top, 0, 0, top, 0, 0), 1, 4),
			node(crate(-top, 0, 0, top, 0, 0), 2, 3), leaf(crate(-top, 0, 0, -top, 0, 0), 2), leaf(crate(top-2, 0, 0, top, 0, 0), 1), leaf(crate(top-1, 0, 0, top, 0, 0), 0)}},
	} {
		if tree := checkTree(t, o.name, o.list); !slices.Equal(tree, o.want) {
			t.Error(o.name, "has the tree", tree, "not", o.want)
		}
	}
}

func TestTreesMany(t *testing.T) {
	t.Parallel()
	d := dice(31)
	for n := 1; n <= impl.MaxBoxes; n++ {
		for kind := range crateKinds {
			checkTree(t, kind, d.crates(n, kind))
		}
	}
	if impl.MaxBoxes != 60 {
		t.Error("limit", impl.MaxBoxes)
	}
	fine := d.crates(61, 0)
	for _, list := range [][]impl.Bx{nil, {}, fine, d.crates(61, 3), d.crates(500, 0)} {
		if tree, ok := impl.BuildTree(list); ok || len(tree) > 0 {
			t.Error(len(list), "boxes have a tree")
		}
	}
	if tree, ok := impl.BuildTree(fine[:60]); !ok || len(tree) != 119 {
		t.Error("60 boxes", len(tree), ok)
	}
	// A full tree is as deep as the number of halvings, and so is each other one here.
	for n, want := range map[int]int{1: 0, 2: 1, 3: 2, 4: 2, 5: 3, 8: 3, 9: 4, 16: 4, 17: 5, 32: 5, 33: 6, 60: 6} {
		if tree, _ := impl.BuildTree(d.crates(n, 6)); depthOf(tree, 0) != want || halvingsOf(n) != want {
			t.Error(n, "boxes are", depthOf(tree, 0), "deep")
		}
	}
}

// brokenCrates are no boxes: for a number, or since a Lo is above its Hi.
func brokenCrates() []impl.Bx {
	list := []impl.Bx{{}, crate(1, 0, 0, 0, 1, 1), crate(0, 1, 0, 1, 0, 1), crate(0, 0, 1, 1, 1, 0), crate(2, 2, 2, 1, 1, 1), {Lo: v3(0, 0, 0)}, {Hi: v3(0, 0, 0)},
		{Lo: impl.V3{X: q(1, top-1), Y: q(0, 1), Z: q(0, 1)}, Hi: impl.V3{X: q(1, top), Y: q(0, 1), Z: q(0, 1)}}, crate(top, 0, 0, -top, 0, 0)}
	for _, v := range broken3() {
		list = append(list, impl.Bx{Lo: v, Hi: v3(9, 9, 9)}, impl.Bx{Lo: v3(-9, -9, -9), Hi: v}, impl.Bx{Lo: v, Hi: v})
	}
	return list
}

func TestTreesOfBrokenBoxes(t *testing.T) {
	d := dice(2)
	for i, bad := range brokenCrates() {
		if isCrate(bad) {
			t.Fatal("a box", bad)
		}
		for n := 1; n < 5; n++ {
			list := d.crates(n, i%crateKinds)
			list[i%n] = bad
			if tree, ok := impl.BuildTree(list); ok || len(tree) > 0 {
				t.Error(list, "has a tree", tree)
			}
		}
	}
}

// fieldsOfNode tells where all its numbers are.
func fieldsOfNode(n *impl.Node) []*impl.Q {
	return []*impl.Q{&n.Box.Lo.X, &n.Box.Lo.Y, &n.Box.Lo.Z, &n.Box.Hi.X, &n.Box.Hi.Y, &n.Box.Hi.Z}
}

// spoiltTrees are trees with one thing changed; some of them are trees, too.
func spoiltTrees(tree []impl.Node) [][]impl.Node {
	var list [][]impl.Node
	n := int64(len(tree))
	numbers := []int64{-1 << 63, -2, -1, 0, 1, 2, 3, n/2 - 1, n / 2, n/2 + 1, n - 1, n, n + 1, 1<<63 - 1}
	for i := range tree {
		put := func(change func(*impl.Node)) {
			o := slices.Clone(tree)
			if change(&o[i]); o[i] != tree[i] {
				list = append(list, o)
			}
		}
		for _, k := range numbers {
			put(func(o *impl.Node) { o.Left = k })
			put(func(o *impl.Node) { o.Right = k })
			put(func(o *impl.Node) { o.Item = k })
		}
		put(func(o *impl.Node) { o.Left, o.Right = o.Right, o.Left })
		put(func(o *impl.Node) { o.Left, o.Right, o.Item = -1, -1, 0 })
		for k := range 6 {
			for _, by := range []*big.Rat{big.NewRat(1, 1), big.NewRat(-1, 1), big.NewRat(1, 1000), big.NewRat(-1, 1000), big.NewRat(99, 1), big.NewRat(-99, 1)} {
				put(func(o *impl.Node) { *fieldsOfNode(o)[k] = shiftedQ(*fieldsOfNode(o)[k], by) })
			}
		}
		list = append(list, slices.Delete(slices.Clone(tree), i, i+1), slices.Insert(slices.Clone(tree), i, tree[i]))
		if i > 0 {
			o := slices.Clone(tree)
			o[i], o[i-1] = o[i-1], o[i]
			list = append(list, o)
			list = append(list, tree[:i], tree[i:])
		}
		for k := range i {
			if tree[i].Item >= 0 && tree[k].Item >= 0 {
				o := slices.Clone(tree)
				o[i].Item, o[k].Item = o[k].Item, o[i].Item
				two := slices.Clone(tree)
				two[i].Box, two[k].Box = two[k].Box, two[i].Box
				list = append(list, o, two)
			}
		}
	}
	return list
}

func TestTreeOkMany(t *testing.T) {
	t.Parallel()
	d := dice(13)
	good, bad := 0, 0
	for i := range 70 {
		tree := checkTree(t, i, d.crates(1+i/7, i%crateKinds))
		for _, o := range spoiltTrees(tree) {
			want := isTree(o)
			if got := impl.TreeOk(o); got != want {
				t.Fatal(o, "is a tree:", got)
			}
			if want {
				good++
				continue
			}
			bad++
			if bad%10 == 0 {
				checkNoTree(t, "spoilt", o)
			}
		}
	}
	if good < 500 || bad < 5000 {
		t.Error("too few of a kind", good, bad)
	}
}

// checkNoTree asks all functions that want a tree.
func checkNoTree(t *testing.T, name any, tree []impl.Node) {
	t.Helper()
	was := slices.Clone(tree)
	if impl.TreeOk(tree) {
		t.Error(name, tree, "is a tree")
	}
	checkNoAnswer(t, name, tree, crate(-9, -9, -9, 9, 9, 9), v3(-50, 0, 0), v3(1, 0, 0))
	if !slices.Equal(tree, was) {
		t.Error(name, "was written into")
	}
}

// checkNoAnswer asks a tree in vain.
func checkNoAnswer(t *testing.T, name any, tree []impl.Node, b impl.Bx, from, dir impl.V3) {
	t.Helper()
	items, ok1 := impl.Overlaps(tree, b)
	count, ok2 := impl.Visited(tree, b)
	hit, k, ok3 := impl.FirstHit(tree, from, dir)
	near, far, ok4 := impl.Closest(tree, from)
	if ok1 || ok2 || ok3 || ok4 || len(items) > 0 || count != 0 || hit != -1 || near != -1 || k != (impl.Q{}) || far != (impl.Q{}) {
		t.Error(name, "tells", items, count, hit, k, near, far, ok1, ok2, ok3, ok4)
	}
}

func TestTreesThatAreNone(t *testing.T) {
	d := dice(6)
	for _, tree := range [][]impl.Node{nil, {}, {{}}, {{Left: -1, Right: -1}}, {{Left: -1, Right: -1, Item: -1}}, make([]impl.Node, 119), make([]impl.Node, 121), make([]impl.Node, 5000)} {
		checkNoTree(t, "no nodes", tree)
	}
	// What a tree of more boxes would be.
	for _, n := range []int{61, 62, 64, 100} {
		for kind := range crateKinds {
			tree := wantTree(d.crates(n, kind))
			if len(tree) != 2*n-1 {
				t.Fatal("no tree of", n)
			}
			checkNoTree(t, n, tree)
		}
	}
	// Broken numbers in each field of each node, of a tree of one box, too.
	for _, n := range []int{1, 2, 3, 6} {
		tree, _ := impl.BuildTree(d.crates(n, 0))
		for i := range tree {
			for k := range 6 {
				for _, bad := range brokenFractions() {
					o := slices.Clone(tree)
					*fieldsOfNode(&o[i])[k] = bad
					checkNoTree(t, bad, o)
				}
			}
		}
	}
	// Boxes that are none.
	for _, bad := range brokenCrates() {
		checkNoTree(t, bad, []impl.Node{{Box: bad, Left: -1, Right: -1, Item: 0}})
		two := wantTree(d.crates(2, 0))
		two[1].Box = bad
		checkNoTree(t, bad, two)
	}
	// Items that begin with 1, or leave one out.
	b := crate(0, 0, 0, 1, 1, 1)
	leaf := func(item int64) impl.Node { return impl.Node{Box: b, Left: -1, Right: -1, Item: item} }
	root := impl.Node{Box: b, Left: 1, Right: 2, Item: -1}
	for _, tree := range [][]impl.Node{{leaf(1)}, {leaf(-1)}, {leaf(-2)}, {root, leaf(0), leaf(2)}, {root, leaf(1), leaf(2)}, {root, leaf(0), leaf(0)}, {root, leaf(1), leaf(1)}, {root, leaf(1), leaf(0)}, {root, leaf(0)}, {leaf(0), leaf(1)}, {leaf(0), leaf(0), leaf(0)}, {root}} {
		checkNoTree(t, "items", tree)
	}
	if !impl.TreeOk([]impl.Node{leaf(0)}) || !impl.TreeOk([]impl.Node{root, leaf(0), leaf(1)}) {
		t.Error("items of one and two")
	}
	// Nodes that lead to themselves.
	for _, tree := range [][]impl.Node{{{Box: b, Item: -1}}, {{Box: b, Left: 0, Right: 0, Item: -1}, leaf(0), leaf(1)}, {{Box: b, Left: 1, Right: 1, Item: -1}, {Box: b, Left: 0, Right: 0, Item: -1}, leaf(0)}} {
		checkNoTree(t, "a ring", tree)
	}
}
