package tests

import (
	"fmt"
	"slices"
	"testing"

	"loop.example/g00022/impl"
)

// Promise 18: places that meet all rules, the nearest that do, and rules that clash.

type solveCase struct {
	name  string
	s     impl.Sketch
	start []impl.V
	want  impl.Answer
}

// solved is an answer with places.
func solved(free int64, places []impl.V, spare ...int64) impl.Answer {
	return impl.Answer{Places: places, Free: free, Spare: spare}
}

func clashing(list ...int64) impl.Answer { return impl.Answer{Clash: list} }

func kindCases() []solveCase {
	two, four := lp(0, 0, 4, 6), lp(0, 0, 4, 2, 2, 8, 10, 20)
	return []solveCase{
		{"at", sk(2, rl(impl.RuAt, 1, 7, -3)), two, solved(2, lp(0, 0, 7, -3))},
		{"X", sk(2, rl(impl.RuX, 1, 7)), two, solved(3, lp(0, 0, 7, 6))},
		{"Y", sk(2, rl(impl.RuY, 0, -7)), two, solved(3, lp(0, -7, 4, 6))},
		{"step", sk(2, rl(impl.RuStep, 0, 1, 2, 0)), two, solved(2, lp(1, 3, 3, 3))},
		{"step back", sk(2, rl(impl.RuStep, 1, 0, 2, 0)), two, solved(2, lp(3, 3, 1, 3))},
		{"dx", sk(2, rl(impl.RuDx, 0, 1, 6)), two, solved(3, lp(-1, 0, 5, 6))},
		{"dy", sk(2, rl(impl.RuDy, 0, 1, 4)), two, solved(3, lp(0, 1, 4, 5))},
		{"same", sk(2, rl(impl.RuSame, 0, 1)), two, solved(2, lp(2, 3, 2, 3))},
		// It lacks 2 times (3, 0) less (1, 4): of (3, -12) the ends go a sixth and the middle, twice as far, a third the other way.
		{"middle", sk(3, rl(impl.RuMid, 0, 1, 2)), lp(-2, 0, 4, 0, 4, 6), solved(4, lp(-1, 2, 5, 2, 2, 2))},
		{"along X", sk(2, rl(impl.RuAlong, 0, 1, 5, 0)), two, solved(3, lp(0, 3, 4, 3))},
		{"along Y", sk(2, rl(impl.RuAlong, 0, 1, 0, -2)), two, solved(3, lp(2, 0, 2, 6))},
		{"along a slant", sk(2, rl(impl.RuAlong, 0, 1, 1, 1)), lp(0, 0, 4, 0), solved(3, lp(1, -1, 3, 1))},
		{"along a slant, twice as long", sk(2, rl(impl.RuAlong, 1, 0, -2, -2)), lp(0, 0, 4, 0), solved(3, lp(1, -1, 3, 1))},
		// (4, 2) and (8, 12): of the lack (-4, -10) each goes a fourth.
		{"equal", sk(4, rl(impl.RuEqual, 0, 1, 2, 3)), four, solved(6, []impl.V{{X: q(-1, 1), Y: q(-5, 2)}, {X: q(5, 1), Y: q(9, 2)}, {X: q(3, 1), Y: q(21, 2)}, {X: q(9, 1), Y: q(35, 2)}})},
		// The place 2 at three times the way from 0 to 1: with weights 2, -3, 1 it lacks (14, 0).
		{"ratio", sk(3, rl(impl.RuRatio, 0, 1, 2, 3)), lp(0, 0, 0, 0, -14, 0), solved(4, lp(2, 0, -3, 0, -13, 0))},
		{"ratio 0", sk(3, rl(impl.RuRatio, 0, 1, 2, 0)), lp(0, 0, 9, 9, 2, 4), solved(4, lp(1, 2, 9, 9, 1, 2))},
		{"ratio 1", sk(3, rl(impl.RuRatio, 0, 1, 2, 1)), lp(9, 9, 0, 0, 2, 4), solved(4, lp(9, 9, 1, 2, 1, 2))},
	}
}

// alikeCases have rules that name a place more than once.
func alikeCases() []solveCase {
	one, three := lp(5, 6), lp(0, 0, 4, 6, 9, 1)
	return []solveCase{
		{"step from itself by nothing", sk(1, rl(impl.RuStep, 0, 0, 0, 0)), one, solved(2, one, 0)},
		{"step from itself", sk(1, rl(impl.RuStep, 0, 0, 0, 1)), one, clashing(0)},
		{"step from itself aside", sk(1, rl(impl.RuStep, 0, 0, 1, 0)), one, clashing(0)},
		{"dx of itself by nothing", sk(1, rl(impl.RuDx, 0, 0, 0)), one, solved(2, one, 0)},
		{"dx of itself", sk(1, rl(impl.RuDx, 0, 0, 3)), one, clashing(0)},
		{"dy of itself by nothing", sk(1, rl(impl.RuDy, 0, 0, 0)), one, solved(2, one, 0)},
		{"dy of itself", sk(1, rl(impl.RuDy, 0, 0, -3)), one, clashing(0)},
		{"same as itself", sk(1, rl(impl.RuSame, 0, 0)), one, solved(2, one, 0)},
		{"middle of itself", sk(1, rl(impl.RuMid, 0, 0, 0)), one, solved(2, one, 0)},
		{"middle of one place", sk(3, rl(impl.RuMid, 1, 1, 0)), three, solved(4, lp(2, 3, 2, 3, 9, 1))},
		{"middle that is one of the two", sk(3, rl(impl.RuMid, 0, 1, 1)), three, solved(4, lp(2, 3, 2, 3, 9, 1))},
		{"along from itself", sk(1, rl(impl.RuAlong, 0, 0, 2, 3)), one, solved(2, one, 0)},
		{"equal to itself", sk(2, rl(impl.RuEqual, 0, 1, 0, 1)), three[:2], solved(4, three[:2], 0)},
		{"equal, all alike", sk(1, rl(impl.RuEqual, 0, 0, 0, 0)), one, solved(2, one, 0)},
		{"equal to its opposite", sk(2, rl(impl.RuEqual, 0, 1, 1, 0)), three[:2], solved(2, lp(2, 3, 2, 3))},
		{"equal in a row", sk(3, rl(impl.RuEqual, 0, 1, 1, 2)), lp(-2, 0, 4, 6, 4, 0), solved(4, lp(-1, 2, 2, 2, 5, 2))},
		{"ratio of itself", sk(1, rl(impl.RuRatio, 0, 0, 0, 7)), one, solved(2, one, 0)},
		{"ratio of no way", sk(3, rl(impl.RuRatio, 0, 0, 1, 7)), three, solved(4, lp(2, 3, 2, 3, 9, 1))},
		{"ratio 1 to its end", sk(2, rl(impl.RuRatio, 0, 1, 1, 1)), three[:2], solved(4, three[:2], 0)},
		{"ratio 2 to its end", sk(2, rl(impl.RuRatio, 0, 1, 1, 2)), three[:2], solved(2, lp(2, 3, 2, 3))},
		{"ratio 0 to its beginning", sk(2, rl(impl.RuRatio, 0, 1, 0, 0)), three[:2], solved(4, three[:2], 0)},
		{"ratio 2 to its beginning", sk(2, rl(impl.RuRatio, 0, 1, 0, 2)), three[:2], solved(2, lp(2, 3, 2, 3))},
	}
}

// spareCases have rules that follow from those ahead.
func spareCases() []solveCase {
	triangle := []impl.Rule{rl(impl.RuStep, 0, 1, 1, 0), rl(impl.RuStep, 1, 2, 0, 1), rl(impl.RuStep, 0, 2, 1, 1)}
	return []solveCase{
		{"no rules", sk(2), lp(3, 4, 5, 6), solved(4, lp(3, 4, 5, 6))},
		{"all fixed", sk(2, rl(impl.RuAt, 0, 1, 1), rl(impl.RuAt, 1, 2, 3)), lp(3, 4, 5, 6), solved(0, lp(1, 1, 2, 3))},
		{"all fixed, and more", sk(2, rl(impl.RuAt, 0, 1, 1), rl(impl.RuAt, 1, 2, 3), rl(impl.RuDx, 0, 1, 1), rl(impl.RuDy, 1, 0, -2), rl(impl.RuAlong, 0, 1, 1, 2)),
			lp(3, 4, 5, 6), solved(0, lp(1, 1, 2, 3), 2, 3, 4)},
		{"some fixed", sk(2, rl(impl.RuX, 0, 1), rl(impl.RuSame, 0, 1)), lp(3, 4, 5, 6), solved(1, lp(1, 5, 1, 5))},
		{"a rule twice", sk(1, rl(impl.RuX, 0, 1), rl(impl.RuX, 0, 1)), lp(3, 4), solved(1, lp(1, 4), 1)},
		{"a rule three times, another between", sk(1, rl(impl.RuAt, 0, 1, 2), rl(impl.RuX, 0, 1), rl(impl.RuAt, 0, 1, 2), rl(impl.RuY, 0, 2)), lp(3, 4), solved(0, lp(1, 2), 1, 2, 3)},
		{"half of a rule follows", sk(1, rl(impl.RuX, 0, 1), rl(impl.RuAt, 0, 1, 2)), lp(3, 4), solved(0, lp(1, 2))},
		{"the other half follows", sk(1, rl(impl.RuY, 0, 2), rl(impl.RuAt, 0, 1, 2)), lp(3, 4), solved(0, lp(1, 2))},
		{"both halves, by two rules", sk(1, rl(impl.RuY, 0, 2), rl(impl.RuX, 0, 1), rl(impl.RuAt, 0, 1, 2)), lp(3, 4), solved(0, lp(1, 2), 2)},
		{"from two together", sk(3, triangle...), lp(0, 0, 1, 0, 1, 1), solved(2, lp(0, 0, 1, 0, 1, 1), 2)},
		{"in another order", sk(3, triangle[2], triangle[0], triangle[1]), lp(0, 0, 1, 0, 1, 1), solved(2, lp(0, 0, 1, 0, 1, 1), 2)},
		{"one half of the last", sk(3, triangle[0], triangle[1], rl(impl.RuDx, 0, 2, 1), rl(impl.RuDy, 2, 0, -1)), lp(0, 0, 1, 0, 1, 1), solved(2, lp(0, 0, 1, 0, 1, 1), 2, 3)},
		// Along two ways from one place: it is that place.
		{"along two ways", sk(2, rl(impl.RuAlong, 0, 1, 1, 0), rl(impl.RuAlong, 0, 1, 1, 1), rl(impl.RuSame, 1, 0)), lp(0, 0, 2, 2), solved(2, lp(1, 1, 1, 1), 2)},
		{"along one way, and the same x", sk(2, rl(impl.RuAlong, 0, 1, 2, 1), rl(impl.RuDx, 0, 1, 0), rl(impl.RuDy, 0, 1, 0)), lp(0, 0, 2, 2), solved(2, lp(1, 1, 1, 1), 2)},
		{"the same way told otherwise", sk(2, rl(impl.RuAlong, 0, 1, 2, 4), rl(impl.RuAlong, 1, 0, -3, -6)), lp(0, 0, 2, 4), solved(3, lp(0, 0, 2, 4), 1)},
		{"middle of the middle", sk(5, rl(impl.RuMid, 0, 4, 2), rl(impl.RuMid, 0, 2, 1), rl(impl.RuMid, 2, 4, 3), rl(impl.RuEqual, 0, 1, 3, 4), withA(rl(impl.RuRatio, 0, 4, 3, 0), q(3, 4))),
			lp(0, 0, 1, 2, 2, 4, 3, 6, 4, 8), solved(4, lp(0, 0, 1, 2, 2, 4, 3, 6, 4, 8), 3, 4)},
		{"places that are there already", sk(2, rl(impl.RuStep, 0, 1, 1, 1)), lp(7, 7, 8, 8), solved(2, lp(7, 7, 8, 8))},
		{"fractions", sk(2, withA(rl(impl.RuX, 0, 0), q(1, 3)), rl(impl.RuSame, 0, 1)), []impl.V{{X: q(0, 1), Y: q(1, 2)}, {X: q(5, 1), Y: q(1, 3)}},
			solved(1, []impl.V{{X: q(1, 3), Y: q(5, 12)}, {X: q(1, 3), Y: q(5, 12)}})},
		{"three at one place", sk(3, rl(impl.RuSame, 0, 1), rl(impl.RuSame, 1, 2), rl(impl.RuSame, 2, 0)), lp(0, 0, 1, 0, 0, 1), solved(2, []impl.V{{X: q(1, 3), Y: q(1, 3)}, {X: q(1, 3), Y: q(1, 3)}, {X: q(1, 3), Y: q(1, 3)}}, 2)},
	}
}

func clashCases() []solveCase {
	x := func(n int64) impl.Rule { return rl(impl.RuX, 0, n) }
	y := func(n int64) impl.Rule { return rl(impl.RuY, 0, n) }
	return []solveCase{
		{"two", sk(1, x(1), x(2)), lp(0, 0), clashing(0, 1)},
		{"three, of which two", sk(1, x(1), x(2), x(3)), lp(0, 0), clashing(0, 1)},
		{"three, the first twice", sk(1, x(1), x(1), x(3)), lp(0, 0), clashing(0, 2)},
		{"three, the last twice", sk(1, x(3), x(1), x(1)), lp(0, 0), clashing(0, 1)},
		{"with others around", sk(1, y(5), x(1), y(5), x(2), y(5)), lp(0, 0), clashing(1, 3)},
		{"two clashes", sk(1, x(1), y(1), x(2), y(2)), lp(0, 0), clashing(0, 2)},
		{"two clashes, one within the other", sk(1, x(1), y(1), y(2), x(2)), lp(0, 0), clashing(1, 2)},
		{"two clashes in a row", sk(1, y(1), y(2), x(1), x(2)), lp(0, 0), clashing(0, 1)},
		{"one half of two", sk(1, rl(impl.RuAt, 0, 1, 2), rl(impl.RuAt, 0, 1, 3)), lp(0, 0), clashing(0, 1)},
		{"the first half of two", sk(1, rl(impl.RuAt, 0, 1, 2), rl(impl.RuAt, 0, 3, 2)), lp(0, 0), clashing(0, 1)},
		{"three in a ring", sk(3, rl(impl.RuStep, 0, 1, 1, 0), rl(impl.RuStep, 1, 2, 1, 0), rl(impl.RuStep, 2, 0, 1, 0)), lp(0, 0, 0, 0, 0, 0), clashing(0, 1, 2)},
		{"three in a ring, others between", sk(4, rl(impl.RuStep, 0, 1, 1, 0), rl(impl.RuX, 3, 4), rl(impl.RuStep, 1, 2, 1, 0), rl(impl.RuSame, 0, 3), rl(impl.RuStep, 2, 0, 1, 0), rl(impl.RuY, 1, 1)),
			lp(0, 0, 0, 0, 0, 0, 0, 0), clashing(0, 2, 4)},
		{"a ring by two ways", sk(4, rl(impl.RuSame, 0, 1), rl(impl.RuSame, 1, 3), rl(impl.RuSame, 0, 2), rl(impl.RuSame, 2, 3), rl(impl.RuDx, 0, 3, 1)), lp(0, 0, 0, 0, 0, 0, 0, 0), clashing(0, 1, 4)},
		{"a ring by two ways, the shorter one first", sk(4, rl(impl.RuSame, 0, 1), rl(impl.RuSame, 1, 3), rl(impl.RuSame, 0, 3), rl(impl.RuDx, 0, 3, 1)), lp(0, 0, 0, 0, 0, 0, 0, 0), clashing(0, 1, 3)},
		{"never by itself", sk(2, x(1), rl(impl.RuDx, 1, 1, 2), x(2)), lp(0, 0, 0, 0), clashing(1)},
		{"never by itself, twice", sk(2, x(1), rl(impl.RuDx, 1, 1, 2), rl(impl.RuDy, 0, 0, 1)), lp(0, 0, 0, 0), clashing(1)},
		{"never by itself, the last", sk(1, x(1), x(2), rl(impl.RuDy, 0, 0, 1)), lp(0, 0), clashing(0, 1)},
		{"never by itself, the first", sk(1, rl(impl.RuDy, 0, 0, 1), x(1), x(2)), lp(0, 0), clashing(0)},
		{"a ratio", sk(2, rl(impl.RuAt, 0, 0, 0), rl(impl.RuAt, 1, 2, 2), rl(impl.RuRatio, 0, 1, 1, 2)), lp(0, 0, 0, 0), clashing(0, 1, 2)},
		{"along", sk(2, rl(impl.RuStep, 0, 1, 2, 2), rl(impl.RuAlong, 0, 1, 1, 2)), lp(0, 0, 0, 0), clashing(0, 1)},
		{"along, by both halves", sk(2, rl(impl.RuDx, 0, 1, 2), rl(impl.RuDy, 0, 1, 2), rl(impl.RuAlong, 0, 1, 1, 2)), lp(0, 0, 0, 0), clashing(0, 1, 2)},
		{"a middle", sk(3, rl(impl.RuX, 0, 0), rl(impl.RuX, 1, 4), rl(impl.RuX, 2, 3), rl(impl.RuY, 2, 3), rl(impl.RuMid, 0, 1, 2)), lp(0, 0, 0, 0, 0, 0), clashing(0, 1, 2, 4)},
		{"most rules", sk(1, append(slices.Repeat([]impl.Rule{x(1)}, 15), x(2))...), lp(0, 0), clashing(0, 15)},
	}
}

func TestSolveByHand(t *testing.T) {
	for _, c := range slices.Concat(kindCases(), alikeCases(), spareCases(), clashCases()) {
		if a, ok := checkSolve(t, c.name, c.s, c.start); !ok || !sameAnswers(a, c.want) {
			t.Error(c.name, "is", a, ok, "not", c.want)
		}
	}
}

func TestRulesInAnyOrder(t *testing.T) {
	d := dice(18)
	for _, c := range spareCases() {
		for range 6 {
			rules := slices.Clone(c.s.Rules)
			for i := range rules {
				k := int(d.next() % uint64(i+1))
				rules[i], rules[k] = rules[k], rules[i]
			}
			a, ok := checkSolve(t, c.name, sk(c.s.Points, rules...), c.start)
			if !ok || !slices.Equal(a.Places, c.want.Places) || a.Free != c.want.Free {
				t.Error(c.name, rules, "is", a, ok)
			}
		}
	}
}

// anyRule names any of these places, with numbers that places with small numbers may meet.
func (d *dice) anyRule(points int64) impl.Rule {
	r := impl.Rule{Kind: 1 + int64(d.next()%lastKind), A: q(0, 1), B: q(0, 1)}
	for _, name := range kindNames[r.Kind] {
		if p := positionOf(&r, name); p != nil {
			*p = int64(d.next() % uint64(points))
		} else {
			*numberOf(&r, name) = q(d.upTo(2), 1)
		}
	}
	if r.Kind == impl.RuAlong && r.A.Num == 0 && r.B.Num == 0 {
		r.A = q(1, 1)
	}
	return r
}

// metBy is a rule with its numbers such that these places meet it, if there are such numbers.
func metBy(r impl.Rule, places []impl.V) (impl.Rule, bool) {
	p := xysOf(places)
	dx, _ := asQ(minusRat(p[r.J][0], p[r.I][0]))
	dy, _ := asQ(minusRat(p[r.J][1], p[r.I][1]))
	switch r.Kind {
	case impl.RuAt:
		r.A, r.B = places[r.I].X, places[r.I].Y
	case impl.RuX:
		r.A = places[r.I].X
	case impl.RuY:
		r.A = places[r.I].Y
	case impl.RuStep:
		r.A, r.B = dx, dy
	case impl.RuDx:
		r.A = dx
	case impl.RuDy:
		r.A = dy
	case impl.RuAlong:
		r.A, r.B = dx, dy
		if dx.Num == 0 && dy.Num == 0 {
			r.B = q(1, 1)
		}
	}
	for _, lack := range lacksOf(r, p) {
		if lack.Sign() != 0 {
			return r, false
		}
	}
	return r, true
}

func (d *dice) places(count int64, most int64) []impl.V {
	var list []impl.V
	for range count {
		x, _ := impl.QOf(d.upTo(most), 1+int64(d.next()%2))
		list = append(list, impl.V{X: x, Y: q(d.upTo(most), 1)})
	}
	return list
}

// sketch has rules that some places meet, if it is of the kind 0; with one more, that may clash, if 1; any rules, if 2.
func (d *dice) sketch(points int64, rules int, kind int) impl.Sketch {
	s, met := sk(points), d.places(points, 2)
	for len(s.Rules) < rules {
		r := d.anyRule(points)
		if kind < 2 {
			ok := false
			if r, ok = metBy(r, met); !ok {
				continue
			}
		}
		s.Rules = append(s.Rules, r)
	}
	if kind == 1 && rules > 0 {
		s.Rules[d.next()%uint64(rules)] = d.anyRule(points)
	}
	return s
}

func TestSolveMany(t *testing.T) {
	t.Parallel()
	d := dice(181)
	seen := map[string]int{}
	for i := range 900 {
		points := 1 + int64(i%8)
		s := d.sketch(points, int(d.next()%17), i%3)
		a, ok := checkSolve(t, i, s, d.places(points, 9))
		seen[fmt.Sprint(ok, len(a.Clash) > 0, len(a.Spare) > 0, a.Free > 0)]++
		if len(a.Clash) > 2 {
			seen["more than two"]++
		}
	}
	for _, kind := range []string{"true true false false", "true false true true", "true false true false", "true false false true", "more than two"} {
		if seen[kind] < 20 {
			t.Error("too few of", kind, seen)
		}
	}
}

// What is on the way may be as great as it will.
func TestSolveGreatNumbers(t *testing.T) {
	t.Parallel()
	d := dice(182)
	edges := edgeFractions()
	any := func() impl.Q {
		if d.next()%3 == 0 {
			return d.fraction()
		}
		return edges[d.next()%uint64(len(edges))]
	}
	seen := map[bool]int{}
	for i := range 200 {
		points := 1 + int64(i%5)
		s := sk(points)
		for range d.next() % 6 {
			r := d.anyRule(points)
			for _, name := range kindNames[r.Kind] {
				if number := numberOf(&r, name); number != nil && d.next()%2 == 0 {
					*number = any()
				}
			}
			if impl.SketchOk(sk(points, r)) {
				s.Rules = append(s.Rules, r)
			}
		}
		var start []impl.V
		for range points {
			start = append(start, impl.V{X: any(), Y: any()})
		}
		_, ok := checkSolve(t, i, s, start)
		seen[ok]++
	}
	if seen[true] < 30 || seen[false] < 30 {
		t.Error("too few", seen)
	}
}

func TestSolveNoPlace(t *testing.T) {
	a, b := q(1, 1000000007), q(1, 1000000009)
	far := []impl.V{{X: a, Y: q(0, 1)}, {X: b, Y: q(0, 1)}}
	for name, s := range map[string]impl.Sketch{
		"x too fine":     sk(2, rl(impl.RuSame, 0, 1)),
		"y too great":    sk(2, withA(rl(impl.RuY, 0, 0), q(top, 1)), rl(impl.RuDy, 0, 1, 1)),
		"too low":        sk(2, withA(rl(impl.RuY, 1, 0), q(-top, 1)), rl(impl.RuDy, 0, 1, 1)),
		"steps too fine": sk(2, withAB(rl(impl.RuAt, 0, 0, 0), a, a), withAB(rl(impl.RuStep, 0, 1, 0, 0), b, b)),
	} {
		if a, ok := checkSolve(t, name, s, far); ok || !isNoAnswer(a) {
			t.Error(name, "is", a, ok)
		}
	}
	// One less is a place, and what is too great on the way does no harm.
	if a, ok := checkSolve(t, "just a place", sk(2, withA(rl(impl.RuY, 0, 0), q(top-1, 1)), rl(impl.RuDy, 0, 1, 1)), far); !ok || a.Places[1].Y != q(top, 1) {
		t.Error("just a place", a, ok)
	}
	great := []impl.V{{X: q(top, 1), Y: q(-top, 1)}, {X: q(-top, 1), Y: q(top, 1)}}
	if a, ok := checkSolve(t, "from far", sk(2, rl(impl.RuSame, 0, 1)), great); !ok || !slices.Equal(a.Places, lp(0, 0, 0, 0)) {
		t.Error("from far", a, ok)
	}
	if a, ok := checkSolve(t, "a clash needs no place", sk(2, withA(rl(impl.RuX, 0, 0), q(top, 1)), rl(impl.RuDx, 0, 1, 1), rl(impl.RuSame, 0, 1)), great); !ok || !slices.Equal(a.Clash, []int64{1, 2}) {
		t.Error("a clash", a, ok)
	}
}

func TestSolveFromWrongPlaces(t *testing.T) {
	s := sk(3, rl(impl.RuStep, 0, 1, 1, 1))
	refused := func(name any, s impl.Sketch, start []impl.V) {
		t.Helper()
		if a, ok := impl.Solve(s, start); ok || !isNoAnswer(a) {
			t.Error(name, "is solved as", a, ok)
		}
		if list, ok := impl.Unmet(s, start); ok || len(list) > 0 {
			t.Error(name, "leaves unmet", list, ok)
		}
		if list, ok := impl.Drag(s, start, 0, at(5, 5), 2); ok || len(list) > 0 {
			t.Error(name, "is dragged", list, ok)
		}
	}
	clash := sk(3, rl(impl.RuX, 0, 1), rl(impl.RuX, 0, 2))
	for _, o := range []impl.Sketch{s, clash, sk(3)} {
		refused("none", o, nil)
		refused("too few", o, lp(0, 0, 1, 1))
		refused("too many", o, lp(0, 0, 1, 1, 2, 2, 3, 3))
		for i := range 3 {
			for _, bad := range brokenPlaces() {
				start := lp(0, 0, 1, 1, 2, 2)
				start[i] = bad
				refused(bad, o, start)
			}
		}
	}
}

// Parts can be solved one by one.
func TestPartsOneByOne(t *testing.T) {
	t.Parallel()
	d := dice(183)
	several := 0
	for i := range 200 {
		points := 2 + int64(i%7)
		s, start := d.sketch(points, int(d.next()%6), i%2), d.places(points, 9)
		a, _ := checkSolve(t, i, s, start)
		parts, _ := impl.PartsOf(s)
		if len(parts) > 1 {
			several++
		}
		all, free, clashes := make([]impl.V, points), int64(0), 0
		for _, part := range parts {
			one, from := partOf(s, part), []impl.V{}
			for _, p := range part {
				from = append(from, start[p])
			}
			o, ok := impl.Solve(one, from)
			if !ok {
				t.Fatal(i, "the part", part, "is not solved")
			}
			free += o.Free
			clashes += len(o.Clash)
			for k, v := range o.Places {
				all[part[k]] = v
			}
		}
		if clashes > 0 != (len(a.Clash) > 0) || clashes == 0 && (!slices.Equal(all, a.Places) || free != a.Free) {
			t.Error(i, s, "in parts is", all, free, "not", a)
		}
	}
	if several < 50 {
		t.Error("too few sketches of several parts", several)
	}
}

// partOf is the sketch of some places alone, with the rules about them.
func partOf(s impl.Sketch, part []int64) impl.Sketch {
	one := sk(int64(len(part)))
	for _, r := range s.Rules {
		if !slices.Contains(part, r.I) {
			continue
		}
		for _, name := range kindNames[r.Kind] {
			if p := positionOf(&r, name); p != nil {
				*p = int64(slices.Index(part, *p))
			}
		}
		one.Rules = append(one.Rules, r)
	}
	return one
}
