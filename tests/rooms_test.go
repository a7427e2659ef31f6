package tests

import (
	"math/big"
	"slices"
	"strconv"
	"testing"

	"loop.example/g00022/impl"
)

// Here space is cut up by planes into rooms, in big numbers. Each room is inside of a set or outside of it, all of it, and the
// border of the set is what lies between a room that is inside and one that is not. The program cuts up no space.

// A wall is a convex piece of a plane, told by its corners round about.
type wall struct {
	on   int
	poly []point3
}

type room []wall

// clippedAt keeps what has heights of that sign, or 0.
func clippedAt(poly []point3, heights []*big.Rat, sign int) []point3 {
	var left []point3
	for i, v := range poly {
		k := (i + 1) % len(poly)
		a, b := heights[i], heights[k]
		if a.Sign()*sign >= 0 {
			left = append(left, v)
		}
		if a.Sign()*b.Sign() < 0 {
			left = append(left, v.plus(poly[k].minus(v).times(new(big.Rat).Quo(a, minusRat(a, b)))))
		}
	}
	return left
}

// inRound puts places of a plane, corners of one convex piece, in order round about.
func inRound(up point3, list []point3) []point3 {
	slices.SortFunc(list, comparePoint3)
	list = slices.CompactFunc(list, func(a, b point3) bool { return a.cmp(b) == 0 })
	middle := middleOf(list...)
	first := list[0].minus(middle)
	slices.SortFunc(list, func(a, b point3) int {
		u, v := a.minus(middle), b.minus(middle)
		return angle(u.dot(first), rowDet(up, first, u)).Cmp(angle(v.dot(first), rowDet(up, first, v)))
	})
	return list
}

// cutBy parts a room by a plane; where all of it is on one side, the other one is nil.
func (r room) cutBy(on int, p impl.Plane) (behind, ahead room) {
	heights, low, high := make([][]*big.Rat, len(r)), false, false
	for i, w := range r {
		for _, v := range w.poly {
			h := over(p, v)
			heights[i] = append(heights[i], h)
			low, high = low || h.Sign() < 0, high || h.Sign() > 0
		}
	}
	if !high {
		return r, nil
	}
	if !low {
		return nil, r
	}
	var between []point3
	for i, w := range r {
		for _, side := range []struct {
			to   *room
			sign int
		}{{&behind, -1}, {&ahead, 1}} {
			if poly := clippedAt(w.poly, heights[i], side.sign); len(poly) > 2 {
				*side.to = append(*side.to, wall{w.on, poly})
				for _, v := range poly {
					if over(p, v).Sign() == 0 {
						between = append(between, v)
					}
				}
			}
		}
	}
	poly := inRound(normalOf(p), between)
	return append(behind, wall{on, poly}), append(ahead, wall{on, poly})
}

func (r room) middle() point3 {
	var all []point3
	for _, w := range r {
		all = append(all, w.poly...)
	}
	return middleOf(all...)
}

// A door is a wall between two rooms.
type door struct {
	poly     []point3
	one, two int
}

type rooms struct {
	list    []room
	middles []point3
	doors   []door
}

// outerRoom is a box around all places of solids.
func outerRoom(solids []impl.Solid) room {
	lo, hi := whole3(-1, -1, -1), whole3(1, 1, 1)
	for _, s := range solids {
		for _, e := range edges3(s) {
			for _, p := range e {
				for i := range p {
					lo[i] = slices.MinFunc([]*big.Rat{lo[i], minusRat(p[i], big.NewRat(1, 1))}, (*big.Rat).Cmp)
					hi[i] = slices.MaxFunc([]*big.Rat{hi[i], plusRat(p[i], big.NewRat(1, 1))}, (*big.Rat).Cmp)
				}
			}
		}
	}
	var corners [8]point3
	for i := range corners {
		for k := range 3 {
			corners[i][k] = lo[k]
			if i>>k&1 == 1 {
				corners[i][k] = hi[k]
			}
		}
	}
	var all room
	for _, r := range [6][4]int{{0, 2, 3, 1}, {4, 5, 7, 6}, {0, 1, 5, 4}, {2, 6, 7, 3}, {0, 4, 6, 2}, {1, 3, 7, 5}} {
		all = append(all, wall{-1, []point3{corners[r[0]], corners[r[1]], corners[r[2]], corners[r[3]]}})
	}
	return all
}

// roomsOf cuts space by all planes of solids, and by others.
func roomsOf(solids []impl.Solid, others ...impl.Plane) rooms {
	planes := slices.Clone(others)
	for _, s := range solids {
		for _, f := range s.Faces {
			planes = append(planes, f.Plane)
		}
	}
	var cut []impl.Plane
	list := []room{outerRoom(solids)}
	for n, p := range planes {
		if slices.Contains(cut, p) || slices.Contains(cut, turnedRound(p)) {
			continue
		}
		cut = append(cut, p)
		var parts []room
		for _, r := range list {
			behind, ahead := r.cutBy(n, p)
			if behind != nil {
				parts = append(parts, behind)
			}
			if ahead != nil {
				parts = append(parts, ahead)
			}
		}
		list = parts
	}
	all := rooms{list: list}
	known := map[string]int{}
	for i, r := range list {
		all.middles = append(all.middles, r.middle())
		for _, w := range r {
			if w.on < 0 {
				continue
			}
			m := middleOf(w.poly...)
			key := strconv.Itoa(w.on) + " " + m[0].String() + " " + m[1].String() + " " + m[2].String()
			if at, ok := known[key]; ok {
				all.doors[at].two = i
			} else {
				known[key] = len(all.doors)
				all.doors = append(all.doors, door{w.poly, i, -1})
			}
		}
	}
	return all
}

// within tells of each room whether it is inside of a set.
func (r rooms) within(has func(point3) bool) []bool {
	var in []bool
	for _, m := range r.middles {
		in = append(in, has(m))
	}
	return in
}

// skin is that of all rooms that are told; false where a number is no Q, or there are too many faces or places.
func (r rooms) skin(in []bool) (impl.Solid, bool) {
	var sides []side3
	for _, d := range r.doors {
		if in[d.one] == in[d.two] {
			continue
		}
		inside := r.middles[d.one]
		if in[d.two] {
			inside = r.middles[d.two]
		}
		for i := 2; i < len(d.poly); i++ {
			s := side3{d.poly[0], d.poly[i-1], d.poly[i]}
			if turnOf(s[0], s[1], s[2], inside) < 0 {
				s[1], s[2] = s[2], s[1]
			}
			sides = append(sides, s)
		}
	}
	s, ok := skinOf(sides)
	if !ok || !areTold(s) {
		return impl.Solid{}, false
	}
	return s, true
}

func (c tetras) has(p point3) bool {
	for k := range c.list {
		if inTetra(c.corners(k), p) {
			return true
		}
	}
	return false
}

// The rooms of a solid's planes that are inside of it are the solid.
func TestRoomsAreSolids(t *testing.T) {
	t.Parallel()
	for _, c := range solidCases() {
		want := checkSkin(t, c.name, c.of)
		r := roomsOf([]impl.Solid{want})
		for _, d := range r.doors {
			if d.two < 0 {
				t.Fatal(c.name, "has a wall with one room alone")
			}
		}
		if got, ok := r.skin(r.within(c.of.has)); !ok || !sameSolids(got, want) {
			t.Error(c.name, "is", got, ok, "not", want)
		}
	}
}
