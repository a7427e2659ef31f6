package tests

import (
	"math"
	"math/big"
	"testing"

	"loop.example/g00022/impl"
)

// Promise 2.

// places picks whole places within a box, so small that many determinants are 0, or as large as can be.
type places struct {
	dice
	most int64
}

func (p *places) two() impl.P2 { return impl.P2{X: p.upTo(p.most), Y: p.upTo(p.most)} }

func (p *places) three() impl.P3 {
	return impl.P3{X: p.upTo(p.most), Y: p.upTo(p.most), Z: p.upTo(p.most)}
}

func corner(d *dice) int64 { return (int64(d.next()%2)*2 - 1) * (impl.MaxCoord - int64(d.next()%3)) }

// determinant goes along the first column.
func determinant(rows [][]*big.Int) *big.Int {
	if len(rows) == 1 {
		return rows[0][0]
	}
	sum := new(big.Int)
	for i := range rows {
		var rest [][]*big.Int
		for j, row := range rows {
			if j != i {
				rest = append(rest, row[1:])
			}
		}
		term := new(big.Int).Mul(rows[i][0], determinant(rest))
		if i%2 == 1 {
			term.Neg(term)
		}
		sum.Add(sum, term)
	}
	return sum
}

// row is p less d, and the sum of the squares when that is wanted.
func row(squares bool, p, d []int64) []*big.Int {
	var list []*big.Int
	sum := new(big.Int)
	for i := range p {
		x := big.NewInt(p[i] - d[i])
		list = append(list, x)
		sum.Add(sum, new(big.Int).Mul(x, x))
	}
	if squares {
		list = append(list, sum)
	}
	return list
}

func flat(p impl.P2) []int64  { return []int64{p.X, p.Y} }
func space(p impl.P3) []int64 { return []int64{p.X, p.Y, p.Z} }

func exactOrient3(p [4]impl.P3) *big.Int {
	d := space(p[3])
	return determinant([][]*big.Int{row(false, space(p[0]), d), row(false, space(p[1]), d), row(false, space(p[2]), d)})
}

func exactInCircle(p [4]impl.P2) *big.Int {
	d := flat(p[3])
	return determinant([][]*big.Int{row(true, flat(p[0]), d), row(true, flat(p[1]), d), row(true, flat(p[2]), d)})
}

func exactInSphere(p [5]impl.P3) *big.Int {
	var rows [][]*big.Int
	for _, x := range p[:4] {
		rows = append(rows, row(true, space(x), space(p[4])))
	}
	return determinant(rows)
}

// soft is a float that is rounded to 53 bits, to the even one of two as near, at each step, whatever the machine does.
type soft struct{ f *big.Float }

func softOf(n int64) soft { return soft{new(big.Float).SetPrec(53).SetInt64(n)} }

func (a soft) plus(b soft) soft  { return soft{new(big.Float).SetPrec(53).Add(a.f, b.f)} }
func (a soft) minus(b soft) soft { return soft{new(big.Float).SetPrec(53).Sub(a.f, b.f)} }
func (a soft) times(b soft) soft { return soft{new(big.Float).SetPrec(53).Mul(a.f, b.f)} }
func (a soft) size() soft        { return soft{new(big.Float).SetPrec(53).Abs(a.f)} }

func (a soft) float() float64 {
	x, _ := a.f.Float64()
	return x
}

func softSign(det, err float64) int64 {
	switch {
	case det > err:
		return 1
	case det < -err:
		return -1
	}
	return 0
}

func softOrient3(s [4]impl.P3) (float64, float64, int64) {
	d := s[3]
	ax, ay, az := softOf(s[0].X-d.X), softOf(s[0].Y-d.Y), softOf(s[0].Z-d.Z)
	bx, by, bz := softOf(s[1].X-d.X), softOf(s[1].Y-d.Y), softOf(s[1].Z-d.Z)
	cx, cy, cz := softOf(s[2].X-d.X), softOf(s[2].Y-d.Y), softOf(s[2].Z-d.Z)
	p := by.times(cz).minus(bz.times(cy))
	q := bz.times(cx).minus(bx.times(cz))
	r := bx.times(cy).minus(by.times(cx))
	det := ax.times(p).plus(ay.times(q)).plus(az.times(r)).float()
	P := by.times(cz).size().plus(bz.times(cy).size())
	Q := bz.times(cx).size().plus(bx.times(cz).size())
	R := bx.times(cy).size().plus(by.times(cx).size())
	per := ax.size().times(P).plus(ay.size().times(Q)).plus(az.size().times(R)).float()
	err := math.Ldexp(per, -50)
	return det, err, softSign(det, err)
}

func softInCircle(s [4]impl.P2) (float64, float64, int64) {
	d := s[3]
	ax, ay := softOf(s[0].X-d.X), softOf(s[0].Y-d.Y)
	bx, by := softOf(s[1].X-d.X), softOf(s[1].Y-d.Y)
	cx, cy := softOf(s[2].X-d.X), softOf(s[2].Y-d.Y)
	A := ax.times(ax).plus(ay.times(ay))
	B := bx.times(bx).plus(by.times(by))
	C := cx.times(cx).plus(cy.times(cy))
	p := bx.times(cy).minus(cx.times(by))
	q := cx.times(ay).minus(ax.times(cy))
	r := ax.times(by).minus(bx.times(ay))
	det := A.times(p).plus(B.times(q)).plus(C.times(r)).float()
	P := bx.times(cy).size().plus(cx.times(by).size())
	Q := cx.times(ay).size().plus(ax.times(cy).size())
	R := ax.times(by).size().plus(bx.times(ay).size())
	per := A.times(P).plus(B.times(Q)).plus(C.times(R)).float()
	err := math.Ldexp(per, -49)
	return det, err, softSign(det, err)
}

type filtered struct {
	det, err float64
	sign     int64
}

// checkFilter holds a filter against the same in soft floats, bit by bit, and against the exact determinant.
func checkFilter(t *testing.T, where any, got, want filtered, exact *big.Int) {
	t.Helper()
	if math.Float64bits(got.det) != math.Float64bits(want.det) || math.Float64bits(got.err) != math.Float64bits(want.err) || got.sign != want.sign {
		t.Error(where, "gives", got, "instead of", want)
	}
	if got.sign != 0 && got.sign != int64(exact.Sign()) {
		t.Error(where, "is sure of", got.sign, "and wrong")
	}
	four := new(big.Rat).Mul(big.NewRat(4, 1), new(big.Rat).SetFloat64(got.err))
	if got.sign == 0 && new(big.Rat).SetInt(new(big.Int).Abs(exact)).Cmp(four) > 0 {
		t.Error(where, "is not sure of", exact)
	}
}

func checkSpace(t *testing.T, p [4]impl.P3) {
	t.Helper()
	exact := exactOrient3(p)
	if got := impl.Orient3(p[0], p[1], p[2], p[3]); got != int64(exact.Sign()) {
		t.Error("Orient3", p, "is", got, "and not the sign of", exact)
	}
	var got, want filtered
	got.det, got.err, got.sign = impl.FOrient3(p[0], p[1], p[2], p[3])
	want.det, want.err, want.sign = softOrient3(p)
	checkFilter(t, p, got, want, exact)
}

func checkFlat(t *testing.T, p [4]impl.P2) {
	t.Helper()
	exact := exactInCircle(p)
	if got := impl.InCircle(p[0], p[1], p[2], p[3]); got != int64(exact.Sign()) {
		t.Error("InCircle", p, "is", got, "and not the sign of", exact)
	}
	var got, want filtered
	got.det, got.err, got.sign = impl.FInCircle(p[0], p[1], p[2], p[3])
	want.det, want.err, want.sign = softInCircle(p)
	checkFilter(t, p, got, want, exact)
	turn := determinant([][]*big.Int{row(false, flat(p[1]), flat(p[0])), row(false, flat(p[2]), flat(p[0]))})
	if got := impl.Orient2(p[0], p[1], p[2]); got != int64(turn.Sign()) {
		t.Error("Orient2", p, "is", got, "and not the sign of", turn)
	}
}

func dotSign(a, b, p, q impl.P3) int64 {
	sum := new(big.Int)
	for i := range 3 {
		sum.Add(sum, new(big.Int).Mul(big.NewInt(space(b)[i]-space(a)[i]), big.NewInt(space(q)[i]-space(p)[i])))
	}
	return int64(sum.Sign())
}

func checkFive(t *testing.T, p [5]impl.P3) {
	t.Helper()
	if got, want := impl.InSphere(p[0], p[1], p[2], p[3], p[4]), int64(exactInSphere(p).Sign()); got != want {
		t.Error("InSphere", p, "is", got, "instead of", want)
	}
	if got, want := impl.CmpAlong(p[0], p[1], p[2], p[3]), dotSign(p[0], p[1], p[2], p[3]); got != want {
		t.Error("CmpAlong", p, "is", got, "instead of", want)
	}
	near, far := row(true, space(p[1]), space(p[0]))[3], row(true, space(p[2]), space(p[0]))[3]
	if got, want := impl.CmpDist(p[0], p[1], p[2]), int64(near.Cmp(far)); got != want {
		t.Error("CmpDist", p, "is", got, "instead of", want)
	}
}

func TestPredicatesAnywhere(t *testing.T) {
	for _, most := range []int64{1, 2, 5, 1000, 1 << 20, impl.MaxCoord} {
		at := &places{dice(most), most}
		for range 4000 {
			checkSpace(t, [4]impl.P3{at.three(), at.three(), at.three(), at.three()})
			checkFlat(t, [4]impl.P2{at.two(), at.two(), at.two(), at.two()})
			checkFive(t, [5]impl.P3{at.three(), at.three(), at.three(), at.three(), at.three()})
		}
	}
}

func TestPredicatesAtTheCorners(t *testing.T) {
	d := dice(7)
	two := func() impl.P2 { return impl.P2{X: corner(&d), Y: corner(&d)} }
	three := func() impl.P3 { return impl.P3{X: corner(&d), Y: corner(&d), Z: corner(&d)} }
	for range 4000 {
		checkSpace(t, [4]impl.P3{three(), three(), three(), three()})
		checkFlat(t, [4]impl.P2{two(), two(), two(), two()})
		checkFive(t, [5]impl.P3{three(), three(), three(), three(), three()})
	}
}

// sheared has large numbers and a determinant that stays what it was on the diagonal: rows are added to one another.
func sheared(d *dice, diagonal []int64, most int64) [][]int64 {
	n := len(diagonal)
	rows := make([][]int64, n)
	for i := range rows {
		rows[i] = make([]int64, n)
		rows[i][i] = diagonal[i]
	}
	for range 200 {
		from, to, k := d.next()%uint64(n), d.next()%uint64(n), d.upTo(9)
		next := make([]int64, n)
		for i := range next {
			next[i] = rows[to][i] + k*rows[from][i]
		}
		if from != to && within(next, most) {
			rows[to] = next
		}
	}
	return rows
}

func within(list []int64, most int64) bool {
	for _, c := range list {
		if c < -most || c > most {
			return false
		}
	}
	return true
}

// Places on one plane, or so near to one that no float tells it.
func TestNearlyFlat(t *testing.T) {
	d := dice(8)
	zero, unsure := 0, 0
	for range 8000 {
		rows := sheared(&d, []int64{d.upTo(2), 1, 1}, impl.MaxCoord)
		var p [4]impl.P3
		for i, r := range rows {
			p[i] = impl.P3{X: r[0], Y: r[1], Z: r[2]}
		}
		checkSpace(t, p)
		if _, _, sign := impl.FOrient3(p[0], p[1], p[2], p[3]); sign == 0 {
			unsure++
		}
		if exactOrient3(p).Sign() == 0 {
			zero++
		}
	}
	if zero < 500 || unsure < zero+500 {
		t.Error("too little near 0 was met:", zero, unsure)
	}
}

// Four places hardly off one line, so that the circle's determinant is small beside its terms, or 0.
func TestNearlyStraight(t *testing.T) {
	d := dice(11)
	zero, unsure := 0, 0
	for range 8000 {
		rows := sheared(&d, []int64{1, 1}, impl.MaxCoord/4)
		at := func() impl.P2 {
			k, l := d.upTo(2), d.upTo(2)
			return impl.P2{X: k*rows[0][0] + l*rows[1][0], Y: k*rows[0][1] + l*rows[1][1]}
		}
		p := [4]impl.P2{at(), at(), at(), at()}
		checkFlat(t, p)
		if _, _, sign := impl.FInCircle(p[0], p[1], p[2], p[3]); sign == 0 {
			unsure++
		}
		if exactInCircle(p).Sign() == 0 {
			zero++
		}
	}
	if zero < 500 || unsure < zero+500 {
		t.Error("too little near 0 was met:", zero, unsure)
	}
}

// Places on one circle or sphere, and next to it: the corners of a box, and one of them moved by a little.
func TestNearlyRound(t *testing.T) {
	d := dice(9)
	for range 6000 {
		lo := impl.P3{X: d.upTo(impl.MaxCoord - 2), Y: d.upTo(impl.MaxCoord - 2), Z: d.upTo(impl.MaxCoord - 2)}
		hi := impl.P3{X: d.upTo(impl.MaxCoord - 2), Y: d.upTo(impl.MaxCoord - 2), Z: d.upTo(impl.MaxCoord - 2)}
		last := impl.P2{X: lo.X + d.upTo(1), Y: hi.Y + d.upTo(1)}
		checkFlat(t, [4]impl.P2{{X: lo.X, Y: lo.Y}, {X: hi.X, Y: lo.Y}, {X: hi.X, Y: hi.Y}, last})
		e := impl.P3{X: hi.X + d.upTo(1), Y: hi.Y, Z: hi.Z + d.upTo(1)}
		checkFive(t, [5]impl.P3{lo, {X: hi.X, Y: lo.Y, Z: lo.Z}, {X: lo.X, Y: hi.Y, Z: lo.Z}, {X: lo.X, Y: lo.Y, Z: hi.Z}, e})
	}
}

// Distances and directions that are alike but for 1.
func TestNearlyAlike(t *testing.T) {
	d := dice(10)
	for range 3000 {
		a := impl.P3{X: d.upTo(1000), Y: d.upTo(1000), Z: d.upTo(1000)}
		s := impl.P3{X: d.upTo(impl.MaxCoord / 2), Y: d.upTo(impl.MaxCoord / 2), Z: d.upTo(impl.MaxCoord / 2)}
		p := impl.P3{X: a.X + s.X, Y: a.Y + s.Y, Z: a.Z + s.Z}
		r := impl.P3{X: a.X - s.Z, Y: a.Y + s.X, Z: a.Z - s.Y + d.upTo(1)}
		checkFive(t, [5]impl.P3{a, p, r, a, a})
		// (s.Y, -s.X, 0) is square to s.
		checkFive(t, [5]impl.P3{a, p, a, {X: a.X + s.Y, Y: a.Y - s.X, Z: a.Z + d.upTo(1)}, a})
	}
}

// A few determinants that are known without any program.
func TestPredicatesKnown(t *testing.T) {
	const m = impl.MaxCoord
	if impl.Orient2(impl.P2{X: -m, Y: -m}, impl.P2{X: m, Y: m}, impl.P2{X: m - 1, Y: m}) != 1 {
		t.Error("just left of the diagonal")
	}
	if impl.Orient2(impl.P2{X: -m, Y: -m}, impl.P2{X: m, Y: m}, impl.P2{X: m, Y: m - 1}) != -1 {
		t.Error("just right of the diagonal")
	}
	square := []impl.P2{{X: -m, Y: -m}, {X: m, Y: -m}, {X: m, Y: m}}
	for _, c := range []struct {
		d    impl.P2
		want int64
	}{{impl.P2{X: -m, Y: m}, 0}, {impl.P2{X: -m, Y: m - 1}, 1}, {impl.P2{X: 1 - m, Y: m}, 1}, {impl.P2{X: m, Y: m}, 0}} {
		if got := impl.InCircle(square[0], square[1], square[2], c.d); got != c.want {
			t.Error("circle of the square and", c.d, got)
		}
	}
	// The rows (1,0,0,1), (0,1,0,1), (0,0,1,1), (-1,0,0,1) have the determinant 2, taken about the middle of their sphere.
	x, y, z, back := impl.P3{X: 1}, impl.P3{Y: 1}, impl.P3{Z: 1}, impl.P3{X: -1}
	if impl.InSphere(x, y, z, back, impl.P3{}) != 1 || impl.InSphere(y, x, z, back, impl.P3{}) != -1 || impl.InSphere(x, y, z, back, impl.P3{Y: -1}) != 0 {
		t.Error("sphere")
	}
	if impl.Orient3(x, y, z, impl.P3{}) != 1 || impl.Orient3(x, y, z, impl.P3{X: 1, Y: 1, Z: 1}) != -1 || impl.Orient3(x, y, z, impl.P3{X: 2, Y: -1}) != 0 {
		t.Error("orient in space")
	}
	if impl.CmpAlong(impl.P3{}, x, y, z) != 0 || impl.CmpAlong(impl.P3{}, x, x, back) != -1 || impl.CmpAlong(x, x, y, z) != 0 {
		t.Error("along")
	}
	if impl.CmpDist(impl.P3{}, x, back) != 0 || impl.CmpDist(x, y, back) != -1 || impl.CmpDist(x, back, y) != 1 {
		t.Error("distance")
	}
}

func TestWildPlaces(t *testing.T) {
	wild := []int64{impl.MaxCoord + 1, -impl.MaxCoord - 1, 1<<63 - 1, -1 << 63, 1 << 32, 1 << 62}
	good := []int64{0, impl.MaxCoord, -impl.MaxCoord}
	for _, n := range append(wild, good...) {
		for at := range 15 {
			var c [15]int64
			c[at] = n
			isWild := n > impl.MaxCoord || n < -impl.MaxCoord
			checkWild(t, c, at, isWild)
		}
	}
}

func checkWild(t *testing.T, c [15]int64, at int, wild bool) {
	t.Helper()
	var p [5]impl.P3
	var s [7]impl.P2
	for i := range p {
		p[i] = impl.P3{X: c[3*i], Y: c[3*i+1], Z: c[3*i+2]}
	}
	for i := range s {
		s[i] = impl.P2{X: c[2*i], Y: c[2*i+1]}
	}
	det3, err3, sign3 := impl.FOrient3(p[0], p[1], p[2], p[3])
	det2, err2, sign2 := impl.FInCircle(s[0], s[1], s[2], s[3])
	for _, x := range []struct {
		name    string
		code    int64
		numbers int // of how many of the numbers it hangs on
	}{
		{"Orient2", impl.Orient2(s[0], s[1], s[2]), 6}, {"Orient3", impl.Orient3(p[0], p[1], p[2], p[3]), 12},
		{"InCircle", impl.InCircle(s[0], s[1], s[2], s[3]), 8}, {"InSphere", impl.InSphere(p[0], p[1], p[2], p[3], p[4]), 15},
		{"CmpAlong", impl.CmpAlong(p[0], p[1], p[2], p[3]), 12}, {"CmpDist", impl.CmpDist(p[0], p[1], p[2]), 9},
		{"FOrient3", sign3, 12}, {"FInCircle", sign2, 8},
	} {
		if (x.code == 2) != (wild && at < x.numbers) {
			t.Error(x.name, "with", c[at], "as number", at, "is", x.code)
		}
	}
	if sign3 == 2 && (math.Float64bits(det3) != 0 || math.Float64bits(err3) != 0) || sign2 == 2 && (math.Float64bits(det2) != 0 || math.Float64bits(err2) != 0) {
		t.Error("a wild place with", det3, err3, det2, err2)
	}
}

// Answers of the filters bit by bit, where another order of the steps, or a step that is not rounded, gives others.
func TestFilterBits(t *testing.T) {
	minusZero := math.Copysign(0, -1)
	for _, c := range []struct {
		p    [4]impl.P3
		want filtered
	}{
		{[4]impl.P3{{}, {X: 5}, {Y: 7}, {}}, filtered{0, 0, 0}},
		{[4]impl.P3{{X: -1, Y: -1, Z: -1}, {X: -1, Y: -1, Z: -1}, {}, {}}, filtered{minusZero, 0, 0}},
		{[4]impl.P3{{X: -1, Y: -1, Z: -1}, {X: -1, Y: -1, Z: -1}, {X: 1, Y: 1, Z: 1}, {}}, filtered{minusZero, 6 * 0x1p-50, 0}},
		{[4]impl.P3{{X: 33782147, Y: 48103873, Z: 48770370}, {X: -6352294, Y: 65339929, Z: 11138617}, {X: 61626009, Y: 34837697, Z: 35941237}, {X: -24420277, Y: 2637285, Z: 13637246}},
			filtered{-0x1.7887cb5308a2bp+76, 0x1.1295c63c57717p+28, -1}},
		{[4]impl.P3{{X: -30487449, Y: 29074868, Z: 12324572}, {X: 49229585, Y: 30123411, Z: -57351078}, {X: -9427222, Y: -18646667, Z: 39060016}, {X: -50121877, Y: -41070960, Z: -57149316}},
			filtered{-0x1.edd087967c5fcp+78, 0x1.ec0058c4f2492p+29, -1}},
		{[4]impl.P3{{X: 66496538, Y: 19653175, Z: 9535149}, {X: -57972468, Y: -50056918, Z: -59621428}, {X: -59734329, Y: -34450401, Z: -53517825}, {X: -32180526, Y: 28762424, Z: 49916935}},
			filtered{0x1.d9f5b0dd72a00p+76, 0x1.6685d4c2e31c1p+30, 1}},
	} {
		var got filtered
		got.det, got.err, got.sign = impl.FOrient3(c.p[0], c.p[1], c.p[2], c.p[3])
		checkFilter(t, c.p, got, c.want, exactOrient3(c.p))
	}
	for _, c := range []struct {
		p    [4]impl.P2
		want filtered
	}{
		{[4]impl.P2{{X: 1}, {Y: 1}, {X: -1}, {}}, filtered{2, 2 * 0x1p-49, 1}},
		{[4]impl.P2{{X: -1}, {}, {Y: -1}, {}}, filtered{minusZero, 0, 0}},
		{[4]impl.P2{{X: 47170998, Y: -51852641}, {X: 57321341, Y: -63222834}, {X: -16231037, Y: -16143099}, {X: -38573848, Y: -20886709}},
			filtered{-0x1.38b95bf068e9dp+99, 0x1.56c4a3e124209p+55, -1}},
		{[4]impl.P2{{X: -5884226, Y: 9562942}, {X: 15972903, Y: 3849270}, {X: 56351608, Y: 25970200}, {X: -42006075, Y: 54074495}},
			filtered{-0x1.66acebf7ac888p+99, 0x1.395f3e3718f8dp+57, -1}},
		{[4]impl.P2{{X: -12270963, Y: 34505224}, {X: 44762840, Y: 20148056}, {X: 38209123, Y: -51978535}, {X: 42585800, Y: -61316071}},
			filtered{0x1.dbf412ccb66ddp+101, 0x1.1cb75da481c9bp+54, 1}},
	} {
		var got filtered
		got.det, got.err, got.sign = impl.FInCircle(c.p[0], c.p[1], c.p[2], c.p[3])
		checkFilter(t, c.p, got, c.want, exactInCircle(c.p))
	}
}
