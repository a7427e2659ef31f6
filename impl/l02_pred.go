package impl

import "math"

const MaxCoord = 67108864

type P2 struct {
	X int64
	Y int64
}

type P3 struct {
	X int64
	Y int64
	Z int64
}

func Orient2(a P2, b P2, c P2) int64 {
	if a.wild() || b.wild() || c.wild() {
		return codeBad
	}
	u, v := b.less(a), c.less(a)
	return signOf(u[0]*v[1] - u[1]*v[0])
}

func Orient3(a P3, b P3, c P3, d P3) int64 {
	if _, _, sure := FOrient3(a, b, c, d); sure != codeSame {
		return sure
	}
	return det3(a.less(d).exact(), b.less(d).exact(), c.less(d).exact()).sign()
}

func InCircle(a P2, b P2, c P2, d P2) int64 {
	if _, _, sure := FInCircle(a, b, c, d); sure != codeSame {
		return sure
	}
	return det3(a.less(d).raised(), b.less(d).raised(), c.less(d).raised()).sign()
}

func InSphere(a P3, b P3, c P3, d P3, e P3) int64 {
	if a.wild() || b.wild() || c.wild() || d.wild() || e.wild() {
		return codeBad
	}
	return sphereDet(a.less(e).exact(), b.less(e).exact(), c.less(e).exact(), d.less(e).exact()).sign()
}

func CmpAlong(a P3, b P3, p P3, q P3) int64 {
	if a.wild() || b.wild() || p.wild() || q.wild() {
		return codeBad
	}
	return signOf(b.less(a).dot(q.less(p)))
}

func CmpDist(a P3, p P3, q P3) int64 {
	if a.wild() || p.wild() || q.wild() {
		return codeBad
	}
	u, v := p.less(a), q.less(a)
	return order(u.dot(u), v.dot(v))
}

// A filter's det is off by less than its err: at most 5 steps of a term are rounded here, 7 in FInCircle, each by
// 2^-53 of the term at most, and those of the sizes no more. So there is room for a sure sign to be right.
func FOrient3(a P3, b P3, c P3, d P3) (float64, float64, int64) {
	const slack = 0x1p-50
	if a.wild() || b.wild() || c.wild() || d.wild() {
		return 0, 0, codeBad
	}
	u, v, w := a.less(d).floats(), b.less(d).floats(), c.less(d).floats()
	p, sizeP := minor(v[1], w[2], v[2], w[1])
	q, sizeQ := minor(v[2], w[0], v[0], w[2])
	r, sizeR := minor(v[0], w[1], v[1], w[0])
	det := u.dot(floats{p, q, r})
	err := u.sizes().dot(floats{sizeP, sizeQ, sizeR}) * slack
	return det, err, sureSign(det, err)
}

func FInCircle(a P2, b P2, c P2, d P2) (float64, float64, int64) {
	const slack = 0x1p-49
	if a.wild() || b.wild() || c.wild() || d.wild() {
		return 0, 0, codeBad
	}
	u, v, w := a.less(d).floats(), b.less(d).floats(), c.less(d).floats()
	p, sizeP := minor(v[0], w[1], w[0], v[1])
	q, sizeQ := minor(w[0], u[1], u[0], w[1])
	r, sizeR := minor(u[0], v[1], v[0], u[1])
	squares := floats{u.square(), v.square(), w.square()}
	det := squares.dot(floats{p, q, r})
	err := squares.dot(floats{sizeP, sizeQ, sizeR}) * slack
	return det, err, sureSign(det, err)
}

func (p P2) wild() bool { return wildCoord(p.X) || wildCoord(p.Y) }

func (p P3) wild() bool { return wildCoord(p.X) || wildCoord(p.Y) || wildCoord(p.Z) }

func wildCoord(n int64) bool { return n < -MaxCoord || n > MaxCoord }

// A step leads from one place to another; of places that are not wild its numbers are below 2^28 in size,
// so that a sum of three products of two of them is an int64. In the plane the third number is 0.
type step [3]int64

func (p P2) less(d P2) step { return step{p.X - d.X, p.Y - d.Y, 0} }

func (p P3) less(d P3) step { return step{p.X - d.X, p.Y - d.Y, p.Z - d.Z} }

func (s step) dot(t step) int64 { return s[0]*t[0] + s[1]*t[1] + s[2]*t[2] }

func (s step) exact() vector { return vector{whole(s[0]), whole(s[1]), whole(s[2])} }

// raised puts a step of the plane up to the height of its square.
func (s step) raised() vector { return vector{whole(s[0]), whole(s[1]), whole(s.dot(s))} }

func (s step) floats() floats { return floats{float64(s[0]), float64(s[1]), float64(s[2])} }

// floats are rounded at every step: a product is converted to what it is already, since a compiler
// may put a product and the sum behind it together to one step where no conversion stands between.
type floats [3]float64

func (f floats) dot(g floats) float64 {
	front := float64(f[0]*g[0]) + float64(f[1]*g[1])
	return front + float64(f[2]*g[2])
}

func (f floats) sizes() floats { return floats{math.Abs(f[0]), math.Abs(f[1]), math.Abs(f[2])} }

// square is that of a step of the plane.
func (f floats) square() float64 { return float64(f[0]*f[0]) + float64(f[1]*f[1]) }

// minor is x y less z w, and both products' sizes added up.
func minor(x float64, y float64, z float64, w float64) (float64, float64) {
	s, t := float64(x*y), float64(z*w)
	return s - t, math.Abs(s) + math.Abs(t)
}

func sureSign(det float64, err float64) int64 {
	if det > err {
		return codeMore
	}
	if det < -err {
		return codeLess
	}
	return codeSame
}

type vector [3]frac

func (u vector) dot(v vector) frac {
	return u[0].times(v[0]).plus(u[1].times(v[1])).plus(u[2].times(v[2]))
}

func (u vector) cross(v vector) vector {
	return vector{
		u[1].times(v[2]).minus(u[2].times(v[1])),
		u[2].times(v[0]).minus(u[0].times(v[2])),
		u[0].times(v[1]).minus(u[1].times(v[0])),
	}
}

func det3(a vector, b vector, c vector) frac { return a.dot(b.cross(c)) }

// sphereDet goes along the column of the squares; the signs there are -, +, -, +.
func sphereDet(a vector, b vector, c vector, d vector) frac {
	plus := b.dot(b).times(det3(a, c, d)).plus(d.dot(d).times(det3(a, b, c)))
	minus := a.dot(a).times(det3(b, c, d)).plus(c.dot(c).times(det3(a, b, d)))
	return plus.minus(minus)
}
