package tests

import (
	"math/big"
	"slices"
	"strings"
	"testing"

	"loop.example/g00022/impl"
)

// Promise 18: sketches that are as they should be, and what Solve tells of them.

// kindNames has for each kind what the document's table names.
var kindNames = map[int64]string{
	impl.RuAt: "IAB", impl.RuX: "IA", impl.RuY: "IA", impl.RuStep: "IJAB", impl.RuDx: "IJA", impl.RuDy: "IJA",
	impl.RuSame: "IJ", impl.RuMid: "IJK", impl.RuAlong: "IJAB", impl.RuEqual: "IJKL", impl.RuRatio: "IJKA",
}

const lastKind = 11

// rl makes a rule of the positions and then the numbers that the table names for its kind.
func rl(kind int64, numbers ...int64) impl.Rule {
	r := impl.Rule{Kind: kind, A: q(0, 1), B: q(0, 1)}
	for i, name := range kindNames[kind] {
		switch name {
		case 'I':
			r.I = numbers[i]
		case 'J':
			r.J = numbers[i]
		case 'K':
			r.K = numbers[i]
		case 'L':
			r.L = numbers[i]
		case 'A':
			r.A = q(numbers[i], 1)
		case 'B':
			r.B = q(numbers[i], 1)
		}
	}
	return r
}

func withA(r impl.Rule, a impl.Q) impl.Rule {
	r.A = a
	return r
}

func withAB(r impl.Rule, a, b impl.Q) impl.Rule {
	r.A, r.B = a, b
	return r
}

func sk(points int64, rules ...impl.Rule) impl.Sketch {
	return impl.Sketch{Points: points, Rules: rules}
}

// oneOfEach has a rule of each kind, all about unlike places.
func oneOfEach() []impl.Rule {
	return []impl.Rule{
		rl(impl.RuAt, 3, 5, 6), rl(impl.RuX, 2, 7), rl(impl.RuY, 1, 8), rl(impl.RuStep, 0, 3, 1, 2), rl(impl.RuDx, 1, 2, 3), rl(impl.RuDy, 2, 1, 4),
		rl(impl.RuSame, 3, 1), rl(impl.RuMid, 0, 1, 2), rl(impl.RuAlong, 1, 3, 1, 2), rl(impl.RuEqual, 0, 1, 2, 3), rl(impl.RuRatio, 0, 1, 3, 2),
	}
}

// positionOf and numberOf tell the field that a letter stands for.
func positionOf(r *impl.Rule, name rune) *int64 {
	return map[rune]*int64{'I': &r.I, 'J': &r.J, 'K': &r.K, 'L': &r.L}[name]
}

func numberOf(r *impl.Rule, name rune) *impl.Q {
	return map[rune]*impl.Q{'A': &r.A, 'B': &r.B}[name]
}

func TestSketchesThatAreOk(t *testing.T) {
	for name, s := range map[string]impl.Sketch{
		"one place":       sk(1),
		"most places":     sk(8),
		"one of each":     sk(4, oneOfEach()...),
		"the last place":  sk(8, rl(impl.RuEqual, 7, 7, 7, 7), rl(impl.RuX, 7, 0)),
		"most rules":      sk(1, slices.Repeat([]impl.Rule{rl(impl.RuX, 0, 1)}, 16)...),
		"along X":         sk(2, rl(impl.RuAlong, 0, 1, 3, 0)),
		"along Y":         sk(2, rl(impl.RuAlong, 0, 1, 0, -3)),
		"a rule of one":   sk(1, rl(impl.RuRatio, 0, 0, 0, 5), rl(impl.RuMid, 0, 0, 0)),
		"great numbers":   sk(1, withAB(rl(impl.RuAt, 0, 0, 0), q(-top, 1), q(1, top)), withA(rl(impl.RuX, 0, 0), q(top-1, top))),
		"what clashes":    sk(1, rl(impl.RuX, 0, 1), rl(impl.RuX, 0, 2)),
		"one never to be": sk(1, rl(impl.RuDx, 0, 0, 1)),
	} {
		if !impl.SketchOk(s) {
			t.Error(name, "is not SketchOk")
		}
		if _, ok := impl.PartsOf(s); !ok {
			t.Error(name, "has no parts")
		}
	}
	for kind := range kindNames {
		// Of each kind with numbers as they come.
		r := impl.Rule{Kind: kind, A: q(0, 1), B: q(0, 1)}
		for _, name := range kindNames[kind] {
			if strings.ContainsRune("IJKL", name) {
				*positionOf(&r, name) = 1
			} else {
				*numberOf(&r, name) = q(-7, 3)
			}
		}
		if !impl.SketchOk(sk(2, r)) || impl.SketchOk(sk(1, r)) {
			t.Error("the kind", kind)
		}
	}
}

// checkNoSketch wants each function to refuse s.
func checkNoSketch(t *testing.T, name any, s impl.Sketch) {
	t.Helper()
	if impl.SketchOk(s) {
		t.Error(name, "is SketchOk")
	}
	start := slices.Repeat([]impl.V{at(1, 2)}, int(min(max(s.Points, 0), 9)))
	if a, ok := impl.Solve(s, start); ok || !isNoAnswer(a) {
		t.Error(name, "is solved as", a, ok)
	}
	if list, ok := impl.Unmet(s, start); ok || len(list) > 0 {
		t.Error(name, "has unmet rules", list, ok)
	}
	if list, ok := impl.PartsOf(s); ok || len(list) > 0 {
		t.Error(name, "has parts", list, ok)
	}
	if list, ok := impl.Drag(s, start, 0, at(1, 1), 1); ok || len(list) > 0 {
		t.Error(name, "is dragged", list, ok)
	}
}

func isNoAnswer(a impl.Answer) bool {
	return len(a.Places) == 0 && a.Free == 0 && len(a.Spare) == 0 && len(a.Clash) == 0
}

func TestSketchesThatAreNone(t *testing.T) {
	for name, s := range map[string]impl.Sketch{
		"nothing":          {},
		"no place":         sk(0),
		"fewer than none":  sk(-1),
		"too many places":  sk(9),
		"far too many":     sk(1 << 62),
		"the least number": sk(-1 << 63),
		"too many rules":   sk(1, slices.Repeat([]impl.Rule{rl(impl.RuX, 0, 1)}, 17)...),
		"kind 0":           sk(2, impl.Rule{Kind: 0, A: q(0, 1), B: q(0, 1)}),
		"kind 12":          sk(2, impl.Rule{Kind: 12, A: q(0, 1), B: q(0, 1)}),
		"kind -1":          sk(2, impl.Rule{Kind: -1, A: q(0, 1), B: q(0, 1)}),
		"a great kind":     sk(2, impl.Rule{Kind: 1<<63 - 1, A: q(0, 1), B: q(0, 1)}),
		"a low kind":       sk(2, impl.Rule{Kind: -1 << 63, A: q(0, 1), B: q(0, 1)}),
		"the zero rule":    sk(2, impl.Rule{}),
		"along nowhere":    sk(2, rl(impl.RuAlong, 0, 1, 0, 0)),
		"no numbers":       sk(2, impl.Rule{Kind: impl.RuSame, J: 1}),
	} {
		checkNoSketch(t, name, s)
	}
	good := rl(impl.RuX, 0, 1)
	for _, clean := range oneOfEach() {
		names := kindNames[clean.Kind]
		for _, field := range "IJKL" {
			wrong := []int64{-1, 4, 5, -1 << 63, 1<<63 - 1}
			if !strings.ContainsRune(names, field) {
				wrong = append(wrong, 1, 3)
			}
			for _, n := range wrong {
				bad := clean
				*positionOf(&bad, field) = n
				checkNoSketch(t, bad, sk(4, bad))
				checkNoSketch(t, bad, sk(4, good, bad, good))
			}
		}
		for _, field := range "AB" {
			wrong := brokenFractions()
			if !strings.ContainsRune(names, field) {
				wrong = append(wrong, q(1, 1), q(-1, 1), q(1, 2), q(0, 2), q(top, 1))
			}
			for _, n := range wrong {
				bad := clean
				*numberOf(&bad, field) = n
				checkNoSketch(t, bad, sk(4, bad))
			}
		}
	}
}

// lacksOf tells, for each equation of a rule, how much it is missed, by the table's words.
func lacksOf(r impl.Rule, p []xy) []*big.Rat {
	a, b := rat(r.A), rat(r.B)
	minus, plus, times := minusRat, plusRat, timesRat
	dx, dy := minus(p[r.J][0], p[r.I][0]), minus(p[r.J][1], p[r.I][1])
	switch r.Kind {
	case impl.RuAt:
		return []*big.Rat{minus(p[r.I][0], a), minus(p[r.I][1], b)}
	case impl.RuX:
		return []*big.Rat{minus(p[r.I][0], a)}
	case impl.RuY:
		return []*big.Rat{minus(p[r.I][1], a)}
	case impl.RuStep:
		return []*big.Rat{minus(dx, a), minus(dy, b)}
	case impl.RuDx:
		return []*big.Rat{minus(dx, a)}
	case impl.RuDy:
		return []*big.Rat{minus(dy, a)}
	case impl.RuSame:
		return []*big.Rat{dx, dy}
	case impl.RuAlong:
		return []*big.Rat{minus(times(dx, b), times(dy, a))}
	}
	var list []*big.Rat
	for i := range 2 {
		one, two, three, four := p[r.I][i], p[r.J][i], p[r.K][i], p[r.L][i]
		switch r.Kind {
		case impl.RuMid:
			list = append(list, minus(plus(three, three), plus(one, two)))
		case impl.RuEqual:
			list = append(list, minus(minus(two, one), minus(four, three)))
		case impl.RuRatio:
			list = append(list, minus(minus(three, one), times(a, minus(two, one))))
		}
	}
	return list
}

// xy is a place in big numbers, as an array.
type xy [2]*big.Rat

func xysOf(places []impl.V) []xy {
	var list []xy
	for _, v := range places {
		list = append(list, xy{rat(v.X), rat(v.Y)})
	}
	return list
}

// equationsOf tells the equations of a rule, found by asking what it lacks with all numbers 0, and with each of them 1: for each
// number by how much it is multiplied, and last what the sum has to be.
func equationsOf(points int64, r impl.Rule) [][]*big.Rat {
	lacks := func(one int) []*big.Rat {
		var list []xy
		for i := range int(points) {
			p := xy{new(big.Rat), new(big.Rat)}
			if one >= 0 && one/2 == i {
				p[one%2] = big.NewRat(1, 1)
			}
			list = append(list, p)
		}
		return lacksOf(r, list)
	}
	nought := lacks(-1)
	rows := make([][]*big.Rat, len(nought))
	for k := range rows {
		for one := range int(2 * points) {
			rows[k] = append(rows[k], minusRat(lacks(one)[k], nought[k]))
		}
		rows[k] = append(rows[k], new(big.Rat).Neg(nought[k]))
	}
	return rows
}

func allRows(s impl.Sketch, rules ...int64) [][]*big.Rat {
	var rows [][]*big.Rat
	for _, i := range rules {
		rows = append(rows, equationsOf(s.Points, s.Rules[i])...)
	}
	return rows
}

// cleared brings rows to a form in which each has a 1 where all others have a 0, by the first so many columns, and tells
// these rows and where their ones are. Rows that are nothing but 0 there are told behind them.
func cleared(rows [][]*big.Rat, columns int) ([][]*big.Rat, []int) {
	var list [][]*big.Rat
	for _, row := range rows {
		list = append(list, slices.Clone(row))
	}
	var ones []int
	for c := range columns {
		at := len(ones)
		for at < len(list) && list[at][c].Sign() == 0 {
			at++
		}
		if at == len(list) {
			continue
		}
		k := len(ones)
		list[k], list[at] = list[at], list[k]
		by := new(big.Rat).Inv(list[k][c])
		for i := range list[k] {
			list[k][i] = timesRat(list[k][i], by)
		}
		for i, row := range list {
			if i == k || row[c].Sign() == 0 {
				continue
			}
			times := row[c]
			for j := range row {
				row[j] = minusRat(row[j], timesRat(times, list[k][j]))
			}
		}
		ones = append(ones, c)
	}
	return list, ones
}

func rankOf(rows [][]*big.Rat, columns int) int {
	_, ones := cleared(rows, columns)
	return len(ones)
}

// canBeMet tells whether the last column depends on the others.
func canBeMet(points int64, rows [][]*big.Rat) bool {
	n := int(2 * points)
	return rankOf(rows, n) == rankOf(rows, n+1)
}

func nought(count int) []*big.Rat {
	var list []*big.Rat
	for range count {
		list = append(list, new(big.Rat))
	}
	return list
}

// nearestNumbers finds the numbers for which the way from the start is a sum of multiples of the rows: both unknown at once.
func nearestNumbers(points int64, rows [][]*big.Rat, start []impl.V) []xy {
	n, m := int(2*points), len(rows)
	var system [][]*big.Rat
	for i := range n {
		row := nought(n + m + 1)
		row[i] = big.NewRat(1, 1)
		for k := range m {
			row[n+k] = rows[k][i]
		}
		row[n+m] = xysOf(start)[i/2][i%2]
		system = append(system, row)
	}
	for _, r := range rows {
		row := nought(n + m + 1)
		copy(row, r[:n])
		row[n+m] = r[n]
		system = append(system, row)
	}
	solved, ones := cleared(system, n+m)
	list := make([]xy, points)
	for k, c := range ones {
		if c < n {
			list[c/2][c%2] = solved[k][n+m]
		}
	}
	return list
}

func upToCount(count int) []int64 {
	var list []int64
	for i := range count {
		list = append(list, int64(i))
	}
	return list
}

func wantClash(s impl.Sketch) []int64 {
	left := upToCount(len(s.Rules))
	for i := len(s.Rules) - 1; i >= 0; i-- {
		others := slices.DeleteFunc(slices.Clone(left), func(k int64) bool { return k == int64(i) })
		if !canBeMet(s.Points, allRows(s, others...)) {
			left = others
		}
	}
	return left
}

// wantSolve goes by the document's words, in big numbers.
func wantSolve(s impl.Sketch, start []impl.V) (impl.Answer, bool) {
	if !impl.SketchOk(s) || int64(len(start)) != s.Points || slices.ContainsFunc(start, func(v impl.V) bool { return !impl.VOk(v) }) {
		return impl.Answer{}, false
	}
	all, n := allRows(s, upToCount(len(s.Rules))...), int(2*s.Points)
	if !canBeMet(s.Points, all) {
		return impl.Answer{Clash: wantClash(s)}, true
	}
	a := impl.Answer{Free: int64(n - rankOf(all, n))}
	for _, p := range nearestNumbers(s.Points, all, start) {
		v, ok := point{p[0], p[1]}.place()
		if !ok {
			return impl.Answer{}, false
		}
		a.Places = append(a.Places, v)
	}
	for i := range s.Rules {
		ahead := upToCount(i)
		if rankOf(allRows(s, ahead...), n) == rankOf(allRows(s, append(ahead, int64(i))...), n) {
			a.Spare = append(a.Spare, int64(i))
		}
	}
	return a, true
}

func sameAnswers(a, b impl.Answer) bool {
	return slices.Equal(a.Places, b.Places) && a.Free == b.Free && slices.Equal(a.Spare, b.Spare) && slices.Equal(a.Clash, b.Clash)
}

// chosen is s with these rules alone.
func chosen(s impl.Sketch, rules []int64) impl.Sketch {
	list := make([]impl.Rule, 0)
	for _, i := range rules {
		list = append(list, s.Rules[i])
	}
	return impl.Sketch{Points: s.Points, Rules: list}
}

func without(list []int64, gone ...int64) []int64 {
	return slices.DeleteFunc(slices.Clone(list), func(k int64) bool { return slices.Contains(gone, k) })
}

// checkSolve holds an answer against the words, and against what follows from it.
func checkSolve(t *testing.T, name any, s impl.Sketch, start []impl.V) (impl.Answer, bool) {
	t.Helper()
	got, ok := impl.Solve(s, start)
	want, wantOk := wantSolve(s, start)
	if ok != wantOk || !sameAnswers(got, want) {
		t.Fatal(name, s, "from", start, "is", got, ok, "not", want, wantOk)
	}
	if !ok {
		return got, ok
	}
	all := upToCount(len(s.Rules))
	if len(got.Clash) > 0 {
		checkClash(t, name, s, got.Clash, start)
		return got, ok
	}
	if list, ok := impl.Unmet(s, got.Places); !ok || len(list) > 0 {
		t.Error(name, "leaves unmet", list, ok)
	}
	if again, ok := impl.Solve(s, got.Places); !ok || !sameAnswers(again, got) {
		t.Error(name, "solved again is", again, ok, "not", got)
	}
	less := chosen(s, without(all, got.Spare...))
	if o, ok := impl.Solve(less, start); !ok || !slices.Equal(o.Places, got.Places) || o.Free != got.Free || len(o.Spare) > 0 {
		t.Error(name, "without the spare", got.Spare, "is", o, ok, "not", got)
	}
	turned := chosen(s, all)
	slices.Reverse(turned.Rules)
	if o, ok := impl.Solve(turned, start); !ok || !slices.Equal(o.Places, got.Places) || o.Free != got.Free {
		t.Error(name, "the other way round is", o, ok, "not", got)
	}
	return got, ok
}

func checkClash(t *testing.T, name any, s impl.Sketch, clash []int64, start []impl.V) {
	t.Helper()
	only := chosen(s, clash)
	if o, ok := impl.Solve(only, start); !ok || !slices.Equal(o.Clash, upToCount(len(clash))) {
		t.Error(name, "the clash", clash, "alone is", o, ok)
	}
	for _, k := range clash {
		if o, _ := impl.Solve(chosen(s, without(clash, k)), start); len(o.Clash) > 0 {
			t.Error(name, "the clash", clash, "without", k, "is", o)
		}
	}
}
