package impl

import (
	"math"
	"math/big"
	"math/bits"
	"strconv"
	"strings"
)

const MaxNum = 1000000000000000000
const MaxNear = 2000

const maxRootDen = 1000000
const maxDigits = 18

// What a comparison or a sign tells; codeBad is told of arguments that are not as they should be.
const (
	codeLess = iota - 1
	codeSame
	codeMore
	codeBad
)

type Q struct {
	Num int64
	Den int64
}

func QOk(a Q) bool { return a.ok() }

func QOf(num int64, den int64) (Q, bool) {
	if den == 0 {
		return Q{}, false
	}
	// Sizes are unsigned, since the least int64 has a size that is no int64.
	top, bottom := size(num), size(den)
	common := gcd(top, bottom)
	top, bottom = top/common, bottom/common
	if top > MaxNum || bottom > MaxNum {
		return Q{}, false
	}
	return Q{signed(top, (num < 0) != (den < 0)), int64(bottom)}, true
}

func QAdd(a Q, b Q) (Q, bool) { return combine(a, b, frac.plus) }

func QSub(a Q, b Q) (Q, bool) { return combine(a, b, frac.minus) }

func QMul(a Q, b Q) (Q, bool) { return combine(a, b, frac.times) }

func QDiv(a Q, b Q) (Q, bool) {
	if b.Num == 0 {
		return Q{}, false
	}
	return combine(a, b, frac.by)
}

func QCmp(a Q, b Q) int64 {
	if !a.ok() || !b.ok() {
		return codeBad
	}
	return a.frac().cmp(b.frac())
}

func QFloor(a Q, step Q) (Q, bool) {
	if !a.ok() || !step.ok() || step.Num <= 0 {
		return Q{}, false
	}
	s := step.frac()
	return a.frac().by(s).floor().times(s).q()
}

func QNear(a Q, most int64) (Q, bool) {
	if !a.ok() || most < 1 || most > MaxNear {
		return Q{}, false
	}
	if a.Den <= most {
		return a, true
	}
	return nearer(a.frac(), a.enclose(most)).q()
}

func QRoot(a Q, den int64) (Q, bool) {
	if !a.ok() || a.Num < 0 || den < 1 || den > maxRootDen {
		return Q{}, false
	}
	// The square of k by den is not above a just when that of k is not above a den den, rounded down.
	k := big.NewInt(den)
	k.Mul(k, k).Mul(k, big.NewInt(a.Num)).Quo(k, big.NewInt(a.Den)).Sqrt(k)
	return QOf(k.Int64(), den)
}

func QText(a Q) string {
	if !a.ok() {
		return ""
	}
	text := strconv.FormatInt(a.Num, 10)
	if a.Den != 1 {
		text += "/" + strconv.FormatInt(a.Den, 10)
	}
	return text
}

func QRead(s string) (Q, bool) {
	text, minus := strings.CutPrefix(s, "-")
	f, ok := readUnsigned(text)
	if !ok {
		return Q{}, false
	}
	if minus {
		f = f.opposite()
	}
	return f.q()
}

func (a Q) ok() bool {
	return a.Den >= 1 && a.Den <= MaxNum && a.Num >= -MaxNum && a.Num <= MaxNum && gcd(size(a.Num), size(a.Den)) == 1
}

// frac holds for a Q that is ok alone: a frac is always in lowest terms.
func (a Q) frac() frac { return frac{num: a.Num, den: a.Den} }

// enclose tells, for a with a denominator above most, the two fractions next to it, below and above, with one that is not.
func (a Q) enclose(most int64) [2]frac {
	f := a.frac()
	low := f.floor()
	high := low.plus(whole(1))
	// Between two neighbours none has a lesser denominator than the one that both numerators and both denominators make, added up.
	for low.den+high.den <= most {
		middle := frac{num: low.num + high.num, den: low.den + high.den}
		if middle.cmp(f) == codeLess {
			low = middle
		} else {
			high = middle
		}
	}
	return [2]frac{low, high}
}

// nearer wants the lesser of the two first, so that it is the answer where all else is the same.
func nearer(f frac, pair [2]frac) frac {
	low, high := pair[0], pair[1]
	order := f.minus(low).cmp(high.minus(f))
	if order == codeMore || order == codeSame && high.den < low.den {
		return high
	}
	return low
}

func combine(a Q, b Q, op func(frac, frac) frac) (Q, bool) {
	if !a.ok() || !b.ok() {
		return Q{}, false
	}
	return op(a.frac(), b.frac()).q()
}

func readUnsigned(text string) (frac, bool) {
	at := strings.IndexAny(text, "/.")
	if at < 0 {
		return readDigits(text)
	}
	head, ok1 := readDigits(text[:at])
	tail, ok2 := readDigits(text[at+1:])
	if !ok1 || !ok2 {
		return frac{}, false
	}
	if text[at] == '.' {
		return head.plus(tail.by(tenTimes(len(text) - at - 1))), true
	}
	if tail.sign() == 0 {
		return frac{}, false
	}
	return head.by(tail), true
}

func readDigits(text string) (frac, bool) {
	if len(text) < 1 || len(text) > maxDigits {
		return frac{}, false
	}
	n := int64(0)
	for i := range len(text) {
		if text[i] < '0' || text[i] > '9' {
			return frac{}, false
		}
		n = n*10 + int64(text[i]-'0')
	}
	return whole(n), true
}

// tenTimes is 10 to the power of n, n being at most maxDigits.
func tenTimes(n int) frac {
	power := int64(1)
	for range n {
		power *= 10
	}
	return whole(power)
}

// A frac is a fraction without limits, for what comes up on the way. It is in lowest terms, with den above 0;
// num and den tell it while both are of a size that an int64 has, otherwise wide does. What wide points to is never written again.
type frac struct {
	num  int64
	den  int64
	wide *big.Rat
}

func whole(n int64) frac { return frac{num: n, den: 1} }

func (f frac) q() (Q, bool) {
	if f.wide != nil || size(f.num) > MaxNum || f.den > MaxNum {
		return Q{}, false
	}
	return Q{f.num, f.den}, true
}

func (f frac) rat() *big.Rat {
	if f.wide != nil {
		return f.wide
	}
	return big.NewRat(f.num, f.den)
}

// fromRat keeps r itself where it is wide, so that r must be new.
func fromRat(r *big.Rat) frac {
	n, d := r.Num(), r.Denom()
	if n.IsInt64() && d.IsInt64() && n.Int64() != math.MinInt64 {
		return frac{num: n.Int64(), den: d.Int64()}
	}
	return frac{wide: r}
}

func bothSmall(f frac, g frac) bool { return f.wide == nil && g.wide == nil }

func (f frac) plus(g frac) frac {
	if bothSmall(f, g) {
		if s, ok := smallSum(f, g); ok {
			return s
		}
	}
	return fromRat(new(big.Rat).Add(f.rat(), g.rat()))
}

func (f frac) minus(g frac) frac { return f.plus(g.opposite()) }

func (f frac) times(g frac) frac {
	if bothSmall(f, g) {
		if p, ok := smallProduct(f, g); ok {
			return p
		}
	}
	return fromRat(new(big.Rat).Mul(f.rat(), g.rat()))
}

// by wants a g that is not 0.
func (f frac) by(g frac) frac {
	if g.wide != nil {
		return f.times(fromRat(new(big.Rat).Inv(g.wide)))
	}
	return f.times(frac{num: signed(uint64(g.den), g.num < 0), den: int64(size(g.num))})
}

func (f frac) opposite() frac {
	if f.wide != nil {
		return frac{wide: new(big.Rat).Neg(f.wide)}
	}
	return frac{num: -f.num, den: f.den}
}

func (f frac) sign() int64 {
	if f.wide != nil {
		return int64(f.wide.Sign())
	}
	return signOf(f.num)
}

func (f frac) cmp(g frac) int64 {
	if bothSmall(f, g) {
		return smallOrder(f, g)
	}
	return int64(f.rat().Cmp(g.rat()))
}

func (f frac) floor() frac {
	if f.wide != nil {
		// Div rounds down here, since the denominator is above 0.
		return fromRat(new(big.Rat).SetInt(new(big.Int).Div(f.wide.Num(), f.wide.Denom())))
	}
	k := f.num / f.den
	if f.num%f.den < 0 {
		k--
	}
	return whole(k)
}

// smallSum takes out what the denominators have in common first, so that few sums leave int64.
func smallSum(f frac, g frac) (frac, bool) {
	common := int64(gcd(uint64(f.den), uint64(g.den)))
	x, ok1 := product(f.num, g.den/common)
	y, ok2 := product(g.num, f.den/common)
	s, ok3 := sum(x, y)
	if !ok1 || !ok2 || !ok3 {
		return frac{}, false
	}
	again := int64(gcd(size(s), uint64(common)))
	den, ok := product(f.den/common, g.den/again)
	return frac{num: s / again, den: den}, ok
}

// smallProduct takes out crosswise what divides both: then the product is in lowest terms as it is.
func smallProduct(f frac, g frac) (frac, bool) {
	a := int64(gcd(size(f.num), uint64(g.den)))
	b := int64(gcd(size(g.num), uint64(f.den)))
	num, ok1 := product(f.num/a, g.num/b)
	den, ok2 := product(f.den/b, g.den/a)
	return frac{num: num, den: den}, ok1 && ok2
}

// smallOrder holds the products of 128 bits against each other, whole.
func smallOrder(f frac, g frac) int64 {
	if f.sign() != g.sign() {
		return order(f.sign(), g.sign())
	}
	hi1, lo1 := bits.Mul64(size(f.num), uint64(g.den))
	hi2, lo2 := bits.Mul64(size(g.num), uint64(f.den))
	if hi1 == hi2 {
		return f.sign() * order(lo1, lo2)
	}
	return f.sign() * order(hi1, hi2)
}

func order[T int64 | uint64](a T, b T) int64 {
	if a < b {
		return codeLess
	}
	if a > b {
		return codeMore
	}
	return codeSame
}

func signOf(n int64) int64 { return order(n, 0) }

// product and sum are false where the answer, or its opposite, is no int64.
func product(a int64, b int64) (int64, bool) {
	hi, lo := bits.Mul64(size(a), size(b))
	if hi != 0 || lo > math.MaxInt64 {
		return 0, false
	}
	return signed(lo, (a < 0) != (b < 0)), true
}

func sum(a int64, b int64) (int64, bool) {
	if b > 0 && a > math.MaxInt64-b || b < 0 && a < -math.MaxInt64-b {
		return 0, false
	}
	return a + b, true
}

func size(n int64) uint64 {
	if n < 0 {
		return -uint64(n)
	}
	return uint64(n)
}

// signed wants a size that an int64 has.
func signed(n uint64, minus bool) int64 {
	if minus {
		return -int64(n)
	}
	return int64(n)
}

// gcd is the greatest number that divides both; of 0 and another one it is that one.
func gcd(a uint64, b uint64) uint64 {
	for b != 0 {
		a, b = b, a%b
	}
	return a
}
