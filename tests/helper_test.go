package tests

import (
	"math/big"

	"loop.example/g00022/impl"
)

// dice gives the same numbers in every run.
type dice uint64

func (d *dice) next() uint64 {
	*d = *d*6364136223846793005 + 1442695040888963407
	x := uint64(*d)
	return (x ^ x>>29) * 0x9E3779B97F4A7C15 >> 11
}

// upTo is a number in -most .. most.
func (d *dice) upTo(most int64) int64 { return int64(d.next()%uint64(2*most+1)) - most }

// anySize is a number in -most .. most, as often short as long.
func (d *dice) anySize(most int64) int64 {
	for range d.next() % 19 {
		if most > 10 {
			most /= 10
		}
	}
	return d.upTo(most)
}

func (d *dice) fraction() impl.Q {
	for {
		if q, ok := lowest(big.NewInt(d.anySize(impl.MaxNum)), big.NewInt(d.anySize(impl.MaxNum))); ok {
			return q
		}
	}
}

// lowest is num by den told by the document's words for a Q, from big numbers alone.
func lowest(num, den *big.Int) (impl.Q, bool) {
	if den.Sign() == 0 {
		return impl.Q{}, false
	}
	return asQ(new(big.Rat).SetFrac(num, den))
}

func asQ(r *big.Rat) (impl.Q, bool) {
	limit := big.NewInt(1000000000000000000)
	if r.Num().CmpAbs(limit) > 0 || r.Denom().Cmp(limit) > 0 {
		return impl.Q{}, false
	}
	return impl.Q{Num: r.Num().Int64(), Den: r.Denom().Int64()}, true
}

func rat(q impl.Q) *big.Rat { return big.NewRat(q.Num, q.Den) }

func q(num, den int64) impl.Q { return impl.Q{Num: num, Den: den} }

const top = impl.MaxNum

// edgeFractions are Qs whose numbers are small, next to the limit, or alike but for a little.
func edgeFractions() []impl.Q {
	list := []impl.Q{q(0, 1)}
	for _, f := range []impl.Q{
		q(1, 1), q(2, 1), q(1, 2), q(1, 3), q(2, 3), q(7, 10), q(1, 6), q(3, 1000000007), q(1000000007, 998244353),
		q(1000000000, 1), q(1, 1000000000), q(top, 1), q(1, top), q(top-1, 1), q(1, top-1), q(top, top-1), q(top-1, top),
		q(top-1, top-2), q(top-2, top-3), q(top/2+1, top), q(top/4, 3), q(top-1, 2), q(top-2, 3),
	} {
		list = append(list, f, q(-f.Num, f.Den))
	}
	return list
}

// brokenFractions are not QOk.
func brokenFractions() []impl.Q {
	const least, greatest = -1 << 63, 1<<63 - 1
	return []impl.Q{
		{}, q(1, 0), q(-1, 0), q(0, 2), q(0, -1), q(2, 4), q(-2, 4), q(3, 3), q(1, -1), q(-1, -1), q(1, -2), q(10, 15),
		q(top+1, 1), q(-top-1, 1), q(1, top+1), q(top, top), q(top+1, top), q(least, 1), q(1, least), q(least, least),
		q(greatest, 1), q(1, greatest), q(greatest, greatest), q(least, greatest), q(0, top), q(6, top),
	}
}
