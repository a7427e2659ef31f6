package tests

import (
	"math/big"
	"strconv"
	"strings"
	"testing"

	"loop.example/g00022/impl"
)

// Promise 1.

func TestQOk(t *testing.T) {
	for _, a := range edgeFractions() {
		if !impl.QOk(a) {
			t.Error(a, "is refused")
		}
	}
	for _, a := range brokenFractions() {
		if impl.QOk(a) {
			t.Error(a, "is accepted")
		}
	}
}

func TestQOf(t *testing.T) {
	numbers := []int64{0, 1, -1, 2, 3, -6, 8, 30, -105, 1 << 62, -1 << 62, 1<<63 - 1, -1<<63 + 1, -1 << 63,
		top, -top, top + 1, -top - 1, top - 1, 2 * top, -2 * top, 2*top + 2, 5 * top, 9 * top}
	d := dice(1)
	for range 60 {
		numbers = append(numbers, d.anySize(top))
	}
	for _, num := range numbers {
		for _, den := range numbers {
			got, ok := impl.QOf(num, den)
			want, wantOk := lowest(big.NewInt(num), big.NewInt(den))
			if got != want || ok != wantOk {
				t.Error(num, "by", den, "is", got, ok, "instead of", want, wantOk)
			}
		}
	}
}

type operation struct {
	name  string
	call  func(impl.Q, impl.Q) (impl.Q, bool)
	exact func(*big.Rat, *big.Rat) *big.Rat // nil when there is none
}

func operations() []operation {
	return []operation{
		{"+", impl.QAdd, func(a, b *big.Rat) *big.Rat { return new(big.Rat).Add(a, b) }},
		{"-", impl.QSub, func(a, b *big.Rat) *big.Rat { return new(big.Rat).Sub(a, b) }},
		{"*", impl.QMul, func(a, b *big.Rat) *big.Rat { return new(big.Rat).Mul(a, b) }},
		{"by", impl.QDiv, func(a, b *big.Rat) *big.Rat {
			if b.Sign() == 0 {
				return nil
			}
			return new(big.Rat).Quo(a, b)
		}},
	}
}

func checkOperations(t *testing.T, a, b impl.Q) {
	t.Helper()
	for _, op := range operations() {
		got, ok := op.call(a, b)
		want, wantOk := impl.Q{}, false
		if exact := op.exact(rat(a), rat(b)); exact != nil {
			want, wantOk = asQ(exact)
		}
		if got != want || ok != wantOk {
			t.Error(a, op.name, b, "is", got, ok, "instead of", want, wantOk)
		}
	}
	if got, want := impl.QCmp(a, b), int64(rat(a).Cmp(rat(b))); got != want {
		t.Error("order of", a, b, "is", got, "instead of", want)
	}
}

func TestOperations(t *testing.T) {
	list := edgeFractions()
	for _, a := range list {
		for _, b := range list {
			checkOperations(t, a, b)
		}
	}
	d := dice(2)
	for range 20000 {
		checkOperations(t, d.fraction(), d.fraction())
	}
}

// Of answers at the limit a few are written out, so that this test does not hang on the one above.
func TestOperationsAtTheLimit(t *testing.T) {
	for _, c := range []struct {
		call func(a, b impl.Q) (impl.Q, bool)
		a, b impl.Q
		want impl.Q
		ok   bool
	}{
		{impl.QAdd, q(top-1, 1), q(1, 1), q(top, 1), true},
		{impl.QAdd, q(top, 1), q(1, 1), q(0, 0), false},
		{impl.QSub, q(1-top, 1), q(1, 1), q(-top, 1), true},
		{impl.QSub, q(-top, 1), q(1, 1), q(0, 0), false},
		{impl.QSub, q(top, 1), q(top, 1), q(0, 1), true},
		{impl.QMul, q(1, top/2), q(1, 2), q(1, top), true},
		{impl.QMul, q(1, top/2), q(1, 3), q(0, 0), false},
		{impl.QMul, q(top, top-1), q(top-1, top), q(1, 1), true},
		{impl.QMul, q(0, 1), q(1, top), q(0, 1), true},
		{impl.QDiv, q(top, top-1), q(top, top-1), q(1, 1), true},
		{impl.QDiv, q(1, 1), q(-top, 1), q(-1, top), true},
		{impl.QDiv, q(0, 1), q(-5, 3), q(0, 1), true},
		{impl.QDiv, q(1, 1), q(0, 1), q(0, 0), false},
		{impl.QAdd, q(1, top), q(-1, top-1), q(0, 0), false},
		{impl.QAdd, q(999999999999999999, top), q(1, top), q(1, 1), true},
	} {
		if got, ok := c.call(c.a, c.b); got != c.want || ok != c.ok {
			t.Error(c.a, c.b, "give", got, ok, "instead of", c.want, c.ok)
		}
	}
}

func TestBrokenFractionsAreRefused(t *testing.T) {
	good := q(1, 2)
	for _, bad := range brokenFractions() {
		for _, pair := range [][2]impl.Q{{bad, good}, {good, bad}, {bad, bad}} {
			for _, op := range append(operations(), operation{"floor", impl.QFloor, nil}) {
				if x, ok := op.call(pair[0], pair[1]); ok || x != (impl.Q{}) {
					t.Error(pair, op.name, x, ok)
				}
			}
			if impl.QCmp(pair[0], pair[1]) != 2 {
				t.Error("order of", pair)
			}
		}
		if x, ok := impl.QNear(bad, 5); ok || x != (impl.Q{}) {
			t.Error("near", bad, x, ok)
		}
		if x, ok := impl.QRoot(bad, 5); ok || x != (impl.Q{}) {
			t.Error("root", bad, x, ok)
		}
		if s := impl.QText(bad); s != "" {
			t.Error("text", bad, s)
		}
	}
}

func checkFloor(t *testing.T, a, step impl.Q) {
	t.Helper()
	got, ok := impl.QFloor(a, step)
	want, wantOk := impl.Q{}, false
	if step.Num > 0 {
		times := new(big.Rat).Quo(rat(a), rat(step))
		down := new(big.Int).Div(times.Num(), times.Denom())
		want, wantOk = asQ(new(big.Rat).Mul(new(big.Rat).SetInt(down), rat(step)))
	}
	if got != want || ok != wantOk {
		t.Error("floor of", a, "by", step, "is", got, ok, "instead of", want, wantOk)
	}
}

func TestQFloor(t *testing.T) {
	list := edgeFractions()
	for _, a := range list {
		for _, step := range list {
			checkFloor(t, a, step)
		}
	}
	d := dice(3)
	for range 10000 {
		checkFloor(t, d.fraction(), d.fraction())
	}
	for _, c := range []struct{ a, step, want impl.Q }{
		{q(7, 2), q(2, 1), q(2, 1)}, {q(-7, 2), q(2, 1), q(-4, 1)}, {q(-1, top), q(1, 1), q(-1, 1)},
		{q(6, 1), q(3, 1), q(6, 1)}, {q(-6, 1), q(3, 1), q(-6, 1)}, {q(1, 3), q(1, 4), q(1, 4)}, {q(0, 1), q(5, 7), q(0, 1)},
		{q(top, 1), q(1, top), q(top, 1)}, {q(-top, 1), q(top, 1), q(-top, 1)},
	} {
		if x, ok := impl.QFloor(c.a, c.step); !ok || x != c.want {
			t.Error("floor of", c.a, "by", c.step, "is", x, ok)
		}
	}
	// The multiple below is less than -MaxNum.
	if x, ok := impl.QFloor(q(-top, 1), q(3, 1)); ok || x != (impl.Q{}) {
		t.Error("floor that is no Q", x, ok)
	}
}

// nearest tries every denominator; with each, the multiples next to a.
func nearest(a impl.Q, most int64) *big.Rat {
	var best, bestFar *big.Rat
	for den := int64(1); den <= most; den++ {
		times := new(big.Int).Mul(big.NewInt(a.Num), big.NewInt(den))
		low := new(big.Int).Div(times, big.NewInt(a.Den))
		for _, num := range []*big.Int{low, new(big.Int).Add(low, big.NewInt(1))} {
			r := new(big.Rat).SetFrac(num, big.NewInt(den))
			far := new(big.Rat).Sub(r, rat(a))
			far.Abs(far)
			// Denominators ascend and the lesser comes first, so that of two as near the first one stays.
			if best == nil || far.Cmp(bestFar) < 0 {
				best, bestFar = r, far
			}
		}
	}
	return best
}

func TestQNear(t *testing.T) {
	for _, c := range []struct {
		a    impl.Q
		most int64
		want impl.Q
	}{
		{q(1, 2), 1, q(0, 1)}, {q(-1, 2), 1, q(-1, 1)}, {q(3, 2), 1, q(1, 1)}, {q(1, 2), 2, q(1, 2)},
		{q(1, 4), 2, q(0, 1)}, {q(3, 4), 2, q(1, 1)}, {q(-1, 4), 2, q(0, 1)}, {q(-3, 4), 2, q(-1, 1)}, {q(5, 4), 2, q(1, 1)},
		{q(5, 12), 3, q(1, 2)}, {q(5, 12), 2, q(1, 2)}, {q(7, 12), 3, q(1, 2)}, {q(-5, 12), 3, q(-1, 2)}, {q(2, 5), 3, q(1, 3)},
		{q(314159265358979323, 100000000000000000), 1000, q(355, 113)}, {q(314159265358979323, 100000000000000000), 112, q(333, 106)},
		{q(1, top), impl.MaxNear, q(0, 1)}, {q(top-1, top), 1, q(1, 1)}, {q(top, top-1), 2000, q(1, 1)},
		{q(1, 2000), 2000, q(1, 2000)}, {q(1, 2001), 2000, q(1, 2000)}, {q(1, 4001), 2000, q(0, 1)}, {q(1, 4000), 2000, q(0, 1)},
		{q(top-1, 2), 1, q(top/2-1, 1)}, {q(1-top, 2), 1, q(-top/2, 1)}, {q(top, 1), 1, q(top, 1)},
	} {
		if x, ok := impl.QNear(c.a, c.most); !ok || x != c.want {
			t.Error("near", c.a, c.most, "is", x, ok, "instead of", c.want)
		}
	}
	d := dice(4)
	check := func(a impl.Q, most int64) {
		want, wantOk := asQ(nearest(a, most))
		if got, ok := impl.QNear(a, most); got != want || ok != wantOk {
			t.Error("near", a, most, "is", got, ok, "instead of", want, wantOk)
		}
	}
	for range 3000 {
		check(d.fraction(), 1+int64(d.next()%40))
	}
	for _, a := range edgeFractions() {
		check(a, impl.MaxNear)
		check(a, 1)
	}
	// Halfway between two neighbours, where the rule for two as near decides.
	for den := int64(2); den <= 60; den++ {
		for num := -2 * den; num <= 2*den; num++ {
			if a, ok := impl.QOf(num, den); ok {
				check(a, 1+int64(d.next()%uint64(den)))
				check(a, (den+1)/2)
			}
		}
	}
}

func TestQNearRefuses(t *testing.T) {
	for _, most := range []int64{0, -1, impl.MaxNear + 1, 1 << 62, -1 << 63} {
		if x, ok := impl.QNear(q(1, 2), most); ok || x != (impl.Q{}) {
			t.Error(most, x, ok)
		}
	}
	if x, ok := impl.QNear(q(1, 2), impl.MaxNear); !ok || x != q(1, 2) {
		t.Error(x, ok)
	}
}

func TestQRoot(t *testing.T) {
	check := func(a impl.Q, den int64) {
		x, ok := impl.QRoot(a, den)
		if !ok || !impl.QOk(x) || x.Num < 0 || den%x.Den != 0 {
			t.Error("root of", a, "by", den, "is", x, ok)
			return
		}
		above := new(big.Rat).Add(rat(x), big.NewRat(1, den))
		if new(big.Rat).Mul(rat(x), rat(x)).Cmp(rat(a)) > 0 || new(big.Rat).Mul(above, above).Cmp(rat(a)) <= 0 {
			t.Error("root of", a, "by", den, "is", x)
		}
	}
	d := dice(5)
	for range 5000 {
		a, den := d.fraction(), 1+int64(d.next()%1000000)
		if a.Num >= 0 {
			check(a, den)
		}
	}
	for _, a := range edgeFractions() {
		for _, den := range []int64{1, 2, 3, 999999, 1000000} {
			if a.Num >= 0 {
				check(a, den)
			} else if x, ok := impl.QRoot(a, den); ok || x != (impl.Q{}) {
				t.Error("root of", a, x, ok)
			}
		}
	}
	// Squares, and what is just below one.
	for _, c := range []struct {
		a    impl.Q
		den  int64
		want impl.Q
	}{
		{q(0, 1), 7, q(0, 1)}, {q(1, 1), 1, q(1, 1)}, {q(2, 1), 1000000, q(1414213, 1000000)}, {q(9, 4), 2, q(3, 2)}, {q(9, 4), 1, q(1, 1)},
		{q(top, 1), 1, q(1000000000, 1)}, {q(top-1, 1), 1, q(999999999, 1)}, {q(1, top), 1000000, q(0, 1)},
		{q(999999998000000001, 1), 1, q(999999999, 1)}, {q(999999998000000000, 1), 1, q(999999998, 1)},
		{q(999999998000000000, 1), 1000000, q(999999998999999, 1000000)},
	} {
		if x, ok := impl.QRoot(c.a, c.den); !ok || x != c.want {
			t.Error("root of", c.a, "by", c.den, "is", x, ok)
		}
	}
	for _, den := range []int64{0, -1, 1000001, -1 << 63, 1<<63 - 1} {
		if x, ok := impl.QRoot(q(1, 1), den); ok || x != (impl.Q{}) {
			t.Error("root by", den, x, ok)
		}
	}
}

func TestTexts(t *testing.T) {
	list := edgeFractions()
	d := dice(6)
	for range 5000 {
		list = append(list, d.fraction())
	}
	for _, a := range list {
		want := strconv.FormatInt(a.Num, 10)
		if a.Den != 1 {
			want += "/" + strconv.FormatInt(a.Den, 10)
		}
		text := impl.QText(a)
		if text != want {
			t.Error("text of", a, "is", text)
		}
		back, ok := impl.QRead(text)
		if a.Num == top || a.Num == -top || a.Den == top {
			// 10^18 has a digit more than a text may have.
			if ok || back != (impl.Q{}) {
				t.Error(text, "is read", back, ok)
			}
		} else if !ok || back != a {
			t.Error(text, "is read", back, ok)
		}
	}
}

func TestQRead(t *testing.T) {
	nines := strings.Repeat("9", 18)
	zeros := strings.Repeat("0", 18)
	for _, c := range []struct {
		text string
		want impl.Q
	}{
		{"0", q(0, 1)}, {"-0", q(0, 1)}, {"-0/7", q(0, 1)}, {"-0.0", q(0, 1)}, {"007", q(7, 1)}, {"-5", q(-5, 1)},
		{"6/8", q(3, 4)}, {"-6/8", q(-3, 4)}, {"0/9", q(0, 1)}, {"4/2", q(2, 1)}, {"1/010", q(1, 10)},
		{"2.50", q(5, 2)}, {"-2.50", q(-5, 2)}, {"-0.5", q(-1, 2)}, {"0.05", q(1, 20)}, {"3.000", q(3, 1)}, {"00.1", q(1, 10)},
		{nines, q(top-1, 1)}, {"-" + nines, q(1-top, 1)}, {zeros, q(0, 1)}, {nines + "/" + nines, q(1, 1)}, {"1/" + nines, q(1, top-1)},
		{nines + "." + zeros, q(top-1, 1)}, {"0." + zeros[1:] + "1", q(1, top)}, {"0." + nines, q(top-1, top)},
		{"1." + zeros, q(1, 1)}, {"499999999999999999.5", q(top-1, 2)}, {"-499999999999999999.5", q(1-top, 2)},
	} {
		if x, ok := impl.QRead(c.text); !ok || x != c.want {
			t.Error(c.text, "is read", x, ok)
		}
	}
	for _, text := range []string{
		"", "-", "--1", "+1", "-+1", " 1", "1 ", "1 /2", "1/ 2", "1/-2", "1/+2", "-1/-2", "1/", "/2", "/", ".", "1.", ".5", "-.5", "1.-5",
		"1/0", "0/0", "-3/000", "1/2/3", "1.2.3", "1/2.5", "1.5/2", "1e3", "0x1", "1_0", "1,5", "a", "1a", "a1", "NaN", "Inf",
		"1\n", "\x001", "1\x00", "\xff", "1/\xff", "\u0661", "1/\u0662", "\uff11", "1\u22152", "\u22121",
		"1" + zeros, zeros + "1", "-1" + zeros, "1/1" + zeros, "1/" + zeros + "1", "0." + zeros + "1", "0." + zeros + "0", strings.Repeat("1", 5000),
		"1." + zeros[1:] + "1", nines + ".5", "500000000000000000.5", "-500000000000000000.5", nines + "." + nines,
	} {
		if x, ok := impl.QRead(text); ok || x != (impl.Q{}) {
			t.Errorf("%q is read %v", text, x)
		}
	}
}
