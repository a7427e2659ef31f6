package tests

import (
	"bytes"
	"math/big"
	"slices"
	"testing"

	"loop.example/g00022/impl"
)

// Promise 16: bytes of meshes.

// numberAs writes a number by the document's words, in big numbers.
func numberAs(n int64) []byte {
	left := big.NewInt(n)
	if n < 0 {
		left.Mul(left, big.NewInt(-2)).Sub(left, big.NewInt(1))
	} else {
		left.Mul(left, big.NewInt(2))
	}
	var list []byte
	for {
		group := new(big.Int)
		left.DivMod(left, big.NewInt(128), group)
		if left.Sign() == 0 {
			return append(list, byte(group.Int64()))
		}
		list = append(list, byte(group.Int64()+128))
	}
}

func numbersAs(list ...int64) []byte {
	var b []byte
	for _, n := range list {
		b = append(b, numberAs(n)...)
	}
	return b
}

// summed puts the sum behind bytes.
func summed(b []byte) []byte {
	sum := int64(0)
	for _, x := range b {
		sum = (sum + int64(x)) % 65521
	}
	return append(slices.Clone(b), byte(sum%256), byte(sum/256))
}

// unsummed are the bytes of any mesh, as it should be or not, without the sum.
func unsummed(m impl.Mesh) []byte {
	list := []int64{int64(len(m.Verts))}
	for _, v := range m.Verts {
		list = append(list, v.X.Num, v.X.Den, v.Y.Num, v.Y.Den, v.Z.Num, v.Z.Den)
	}
	list = append(list, int64(len(m.Tris)))
	for _, t := range m.Tris {
		list = append(list, t.A, t.B, t.C)
	}
	return append([]byte{83, 77, 1}, numbersAs(list...)...)
}

// checkPack tells the bytes.
func checkPack(t *testing.T, name any, m impl.Mesh) []byte {
	t.Helper()
	b, ok := impl.PackMesh(m)
	if want := summed(unsummed(m)); !ok || !bytes.Equal(b, want) {
		t.Fatal(name, m, "is packed as", b, ok, "not", want)
	}
	checkRead(t, name, b, impl.MsOk)
	if read, code := impl.ReadMesh(b); code != impl.MsOk || !sameMeshes(read, m) {
		t.Fatal(name, m, "is read back as", read, code)
	}
	return b
}

// numberIn reads a number: with the code MsShort or MsForm where it can't.
func numberIn(b []byte) (n int64, rest []byte, code int64) {
	sum := new(big.Int)
	for i := range 10 {
		if i == len(b) {
			return 0, nil, impl.MsShort
		}
		part := new(big.Int).Lsh(big.NewInt(int64(b[i]%128)), uint(7*i))
		sum.Add(sum, part)
		if b[i] >= 128 {
			continue
		}
		if sum.BitLen() > 64 || i > 0 && b[i] == 0 {
			return 0, nil, impl.MsForm
		}
		if sum.Bit(0) == 1 {
			sum.Add(sum, big.NewInt(1)).Neg(sum)
		}
		return sum.Quo(sum, big.NewInt(2)).Int64(), b[i+1:], impl.MsOk
	}
	return 0, nil, impl.MsForm
}

// wantRead reads bytes by the document's words.
func wantRead(b []byte) (impl.Mesh, int64) {
	if len(b) < 3 || b[0] != 83 || b[1] != 77 || b[2] != 1 {
		return impl.Mesh{}, impl.MsMagic
	}
	rest := b[3:]
	var m impl.Mesh
	for kind, size := range []int{6, 3} {
		count, more, code := numberIn(rest)
		if code != impl.MsOk {
			return impl.Mesh{}, code
		}
		if rest = more; count < 0 || count > []int64{200, 300}[kind] {
			return impl.Mesh{}, impl.MsForm
		}
		for range count {
			n := make([]int64, size)
			for i := range n {
				if n[i], rest, code = numberIn(rest); code != impl.MsOk {
					return impl.Mesh{}, code
				}
			}
			if kind == 0 {
				m.Verts = append(m.Verts, impl.V3{X: q(n[0], n[1]), Y: q(n[2], n[3]), Z: q(n[4], n[5])})
			} else {
				m.Tris = append(m.Tris, tri(n[0], n[1], n[2]))
			}
		}
	}
	if len(rest) < 2 {
		return impl.Mesh{}, impl.MsShort
	}
	if len(rest) > 2 || !impl.MeshOk(m) {
		return impl.Mesh{}, impl.MsForm
	}
	if !bytes.Equal(summed(b[:len(b)-2]), b) {
		return impl.Mesh{}, impl.MsSum
	}
	return m, impl.MsOk
}

func checkRead(t *testing.T, name any, b []byte, code int64) {
	t.Helper()
	want, wantCode := wantRead(b)
	m, got := impl.ReadMesh(b)
	if wantCode != code {
		t.Fatal(name, b, "was meant to be", code, "and is", wantCode)
	}
	if got != code || !sameMeshes(m, want) || got != impl.MsOk && len(m.Verts)+len(m.Tris) > 0 {
		t.Fatal(name, b, "is read as", m, got, "not", want, code)
	}
}

func TestCodesOfBytes(t *testing.T) {
	if impl.MsOk != 0 || impl.MsMagic != 1 || impl.MsShort != 2 || impl.MsForm != 3 || impl.MsSum != 4 {
		t.Error("codes", impl.MsOk, impl.MsMagic, impl.MsShort, impl.MsForm, impl.MsSum)
	}
}

func TestPackedByHand(t *testing.T) {
	for _, c := range []struct {
		name string
		m    impl.Mesh
		want []byte
	}{
		{"nothing", impl.Mesh{}, []byte{83, 77, 1, 0, 0, 161, 0}},
		{"the origin", meshBy([]int64{0, 0, 0}), []byte{83, 77, 1, 2, 0, 2, 0, 2, 0, 2, 0, 169, 0}},
		{"halves", impl.Mesh{Verts: []impl.V3{{X: q(1, 2), Y: q(-1, 2), Z: q(-63, 64)}}}, []byte{83, 77, 1, 2, 2, 4, 1, 4, 125, 128, 1, 0, 172, 1}},
		{"63, 64, -64", meshBy([]int64{63, 64, -64}), []byte{83, 77, 1, 2, 126, 2, 128, 1, 2, 127, 2, 0, 39, 2}},
		{"-65, 8191, 8192", meshBy([]int64{-65, 8191, 8192}), []byte{83, 77, 1, 2, 129, 1, 2, 254, 127, 2, 128, 128, 1, 2, 0, 169, 3}},
		{"a triangle", meshBy([]int64{0, 0, 0, 1, 0, 0, 0, 1, 0}, tri(0, 1, 2)),
			[]byte{83, 77, 1, 6, 0, 2, 0, 2, 0, 2, 2, 2, 0, 2, 0, 2, 0, 2, 2, 2, 0, 2, 2, 0, 2, 4, 197, 0}},
	} {
		if b := checkPack(t, c.name, c.m); !bytes.Equal(b, c.want) {
			t.Error(c.name, "is packed as", b, "not", c.want)
		}
	}
}

// Numbers of each length, on both sides of 0, of each place and denominator.
func TestPackedNumbers(t *testing.T) {
	lengths := map[int]int{}
	var list []int64
	for bits := range 60 {
		for _, n := range []int64{1<<bits - 1, 1 << bits, 1<<bits + 1} {
			list = append(list, n, -n)
		}
	}
	list = append(list, top, -top, top-1, 1-top)
	for _, n := range list {
		if n > top || n < -top {
			continue
		}
		lengths[len(numberAs(n))]++
		checkPack(t, n, meshBy([]int64{n, 1, 2}))
		checkPack(t, n, meshBy([]int64{-3, n, 2}))
		checkPack(t, n, meshBy([]int64{5, 7, n}))
		if n > 0 {
			checkPack(t, n, impl.Mesh{Verts: []impl.V3{{X: q(1, n), Y: q(-1, n), Z: q(0, 1)}, {X: q(0, 1), Y: q(0, 1), Z: q(1, n)}}})
		}
	}
	for size := 1; size <= 9; size++ {
		if lengths[size] < 4 {
			t.Error("no number of", size, "bytes:", lengths)
		}
	}
	checkPack(t, "great ones", impl.Mesh{Verts: []impl.V3{{X: q(top, top-1), Y: q(-top, top-1), Z: q(1-top, top)}}})
}

// sumOf adds up all bytes ahead of the sum.
func sumOf(m impl.Mesh) int64 {
	sum := int64(0)
	for _, b := range unsummed(m) {
		sum += int64(b)
	}
	return sum
}

// meshOfSum has places alone, with bytes that have together a sum that is at least 1000 or so.
func meshOfSum(t *testing.T, sum int64) impl.Mesh {
	t.Helper()
	var m impl.Mesh
	for _, v := range []impl.V3{v3(-top, 1-top, 2-top), v3(50, 50, 50)} {
		for sumOf(m)+sumOf(impl.Mesh{Verts: []impl.V3{v}}) < sum-100 {
			m.Verts = append(m.Verts, v)
		}
	}
	// Six numbers more bring what is missing: up to 126 each.
	m.Verts = append(m.Verts, v3(0, 0, 0), v3(0, 0, 0))
	for k := len(m.Verts) - 2; k < len(m.Verts); k++ {
		for _, n := range []*impl.Q{&m.Verts[k].X, &m.Verts[k].Y, &m.Verts[k].Z} {
			if missing := min(sum-sumOf(m), 126); missing%2 == 0 {
				n.Num = missing / 2
			} else {
				n.Num = -(missing + 1) / 2
			}
		}
	}
	if sumOf(m) != sum || !impl.MeshOk(m) {
		t.Fatal("no mesh of", sum, "but of", sumOf(m))
	}
	return m
}

// Sums below 65521, just that, and above; and positions of more than one byte.
func TestPackedSums(t *testing.T) {
	for _, sum := range []int64{1000, 32767, 32768, 65279, 65280, 65281, 65519, 65520, 65521, 65522, 65523, 65535, 65536, 65537, 66000, 131041, 131042, 131043, 150000} {
		b := checkPack(t, sum, meshOfSum(t, sum))
		if last := b[len(b)-2:]; int64(last[0])+256*int64(last[1]) != sum%65521 {
			t.Error("of", sum, "is told", last)
		}
	}
	d := dice(12)
	for n := range 60 {
		m := impl.Mesh{}
		for range 3 + 3*n {
			m.Verts = append(m.Verts, impl.V3{X: d.fraction(), Y: d.fraction(), Z: d.fraction()})
		}
		m.Tris = fansOf(len(m.Verts), 5*n)
		checkPack(t, n, m)
	}
	if b, ok := impl.PackMesh(impl.Mesh{Verts: placesInRow(200), Tris: fansOf(200, 300)}); !ok || len(b) < 1500 {
		t.Error("as great as may be", len(b), ok)
	}
}

func bytesCases() map[string]impl.Mesh {
	cube, _ := impl.Box(v3(-1, -2, 0), impl.V3{X: q(1, 3), Y: q(200, 7), Z: q(1, top)})
	mesh, _ := impl.MeshOf(cube)
	return map[string]impl.Mesh{
		"nothing": {}, "a place": meshBy([]int64{0, 0, 0}), "a cube": mesh,
		"a triangle":    meshBy([]int64{0, 0, 0, 1, 0, 0, 0, 1, 0}, tri(0, 1, 2)),
		"great numbers": {Verts: []impl.V3{v3(top, -top, 70), {X: q(1, top), Y: q(-1, top), Z: q(top, top-1)}, v3(0, 1, -1), v3(300, 20000, -3000000)}, Tris: []impl.Tri{tri(0, 3, 1), tri(1, 2, 3)}},
	}
}

// Each byte turned into each other one is told, as the document says by which code.
func TestTurnedBytes(t *testing.T) {
	t.Parallel()
	codes := map[int64]int{}
	for name, m := range bytesCases() {
		b := checkPack(t, name, m)
		for i := range b {
			for by := 1; by < 256; by++ {
				o := slices.Clone(b)
				o[i] ^= byte(by)
				_, code := wantRead(o)
				if code == impl.MsOk {
					t.Fatal(name, "with byte", i, "turned is fine", o)
				}
				codes[code]++
				checkRead(t, name, o, code)
				if i < 3 && code != impl.MsMagic || i >= len(b)-2 && code != impl.MsSum {
					t.Error(name, "byte", i, "tells", code)
				}
			}
		}
	}
	for code := int64(impl.MsMagic); code <= impl.MsSum; code++ {
		if codes[code] < 100 {
			t.Error("too few of a kind:", codes)
		}
	}
}

// Cut off at each length, and with bytes behind.
func TestBytesTooFewAndTooMany(t *testing.T) {
	for name, m := range bytesCases() {
		b := checkPack(t, name, m)
		for n := range len(b) {
			want := int64(impl.MsShort)
			if n < 3 {
				want = impl.MsMagic
			}
			checkRead(t, name, b[:n], want)
			checkRead(t, name, slices.Clone(b[:n]), want)
		}
		for _, more := range [][]byte{{0}, {1}, {255}, {128}, {0, 0}, {83, 77, 1}, b, bytes.Repeat([]byte{255}, 40)} {
			checkRead(t, name, slices.Concat(b, more), impl.MsForm)
		}
		// With a sum that is right for all that is ahead of it.
		for _, more := range [][]byte{{0}, {7}, {255, 255}} {
			checkRead(t, name, summed(slices.Concat(b, more)), impl.MsForm)
			checkRead(t, name, summed(slices.Concat(b[:len(b)-2], more)), impl.MsForm)
		}
	}
	for _, b := range [][]byte{nil, {}, {83}, {83, 77}, {77, 83, 1}, {0}, {1, 77, 83}} {
		checkRead(t, "first bytes", b, impl.MsMagic)
	}
	checkRead(t, "the first bytes alone", []byte{83, 77, 1}, impl.MsShort)
	for i := range 3 {
		for x := range 256 {
			b := []byte{83, 77, 1, 0, 0, 161, 0}
			if int(b[i]) != x {
				b[i] = byte(x)
				checkRead(t, "another first byte", b, impl.MsMagic)
				checkRead(t, "another first byte, summed", summed(b[:5]), impl.MsMagic)
				checkRead(t, "another first byte, cut off", b[:4], impl.MsMagic)
			}
		}
	}
}

// magic puts the first three bytes ahead.
func magic(parts ...[]byte) []byte { return append([]byte{83, 77, 1}, slices.Concat(parts...)...) }

func long(n int, last ...byte) []byte { return append(bytes.Repeat([]byte{128}, n), last...) }

func TestNumbersThatAreNone(t *testing.T) {
	ahead := map[string][]byte{"the places": magic(), "an X": magic(numbersAs(1)), "a Den": magic(numbersAs(1, 5)), "a Z": magic(numbersAs(2, 0, 1, 0, 1)), "the triangles": magic(numbersAs(1, 0, 1, 0, 1, 0, 1)), "an A": magic(numbersAs(0, 1)), "a C": magic(numbersAs(0, 1, 0, 1))}
	for name, first := range ahead {
		for _, c := range []struct {
			number []byte
			want   int64
		}{
			{long(1, 0), impl.MsForm}, {long(2, 0), impl.MsForm}, {long(9, 0), impl.MsForm}, {[]byte{255, 0}, impl.MsForm}, {[]byte{130, 128, 0}, impl.MsForm},
			{long(10), impl.MsForm}, {long(10, 1), impl.MsForm}, {long(11, 0), impl.MsForm}, {long(30), impl.MsForm}, {bytes.Repeat([]byte{255}, 10), impl.MsForm},
			{long(9, 2), impl.MsForm}, {long(9, 3), impl.MsForm}, {long(9, 64), impl.MsForm}, {long(9, 127), impl.MsForm}, {long(9, 129), impl.MsForm}, {bytes.Repeat([]byte{255}, 20), impl.MsForm},
			{long(1), impl.MsShort}, {long(9), impl.MsShort}, {bytes.Repeat([]byte{255}, 9), impl.MsShort}, {nil, impl.MsShort},
		} {
			checkRead(t, name, slices.Concat(first, c.number), c.want)
			// What goes on behind it is not looked at, but for what is too short.
			if c.want == impl.MsForm {
				checkRead(t, name, slices.Concat(first, c.number, []byte{1, 2, 3, 4, 5, 6, 7, 8, 9, 10}), impl.MsForm)
				checkRead(t, name, summed(slices.Concat(first, c.number)), impl.MsForm)
			}
		}
	}
	// Just 64 bits are a number, though not one of a mesh; so all that follows has to be there.
	for _, n := range []int64{-1 << 63, 1<<63 - 1, 1 << 62, -1 << 62} {
		if len(numberAs(n)) < 9 {
			t.Fatal("too short", n)
		}
		checkRead(t, "64 bits", magic(numbersAs(1, n)), impl.MsShort)
		checkRead(t, "64 bits", magic(numbersAs(1, n, 1, 0, 1, 0, 1, 0)), impl.MsShort)
		checkRead(t, "64 bits", summed(magic(numbersAs(1, n, 1, 0, 1, 0, 1, 0))), impl.MsForm)
		checkRead(t, "64 bits", summed(magic(numbersAs(1, 0, n, 0, 1, 0, 1, 0))), impl.MsForm)
		checkRead(t, "64 bits", summed(magic(numbersAs(1, 0, 1, 0, 1, 0, 1, 1, n, 0, 0))), impl.MsForm)
		checkRead(t, "64 bits", magic(numbersAs(1, 0, 1, 0, 1, 0, 1, 1, 0, n)), impl.MsShort)
		checkRead(t, "64 bits, a count", magic(numbersAs(n)), impl.MsForm)
	}
	if !bytes.Equal(numberAs(-1<<63), append(bytes.Repeat([]byte{255}, 9), 1)) || !bytes.Equal(numberAs(1<<63-1), append([]byte{254}, append(bytes.Repeat([]byte{255}, 8), 1)...)) {
		t.Error("just 64 bits", numberAs(-1<<63))
	}
}

func TestCountsThatAreNone(t *testing.T) {
	for _, n := range []int64{-1, -2, -200, -1 << 40, -1 << 63, 201, 202, 300, 1000, 1 << 40, 1<<63 - 1} {
		checkRead(t, n, magic(numbersAs(n)), impl.MsForm)
		checkRead(t, n, magic(numbersAs(n, 0, 1, 0, 1, 0, 1, 0)), impl.MsForm)
	}
	for _, n := range []int64{-1, -2, -300, -1 << 63, 301, 302, 1000, 1 << 40, 1<<63 - 1} {
		checkRead(t, n, magic(numbersAs(0, n)), impl.MsForm)
		checkRead(t, n, magic(numbersAs(1, 5, 1, 6, 1, 7, 1, n)), impl.MsForm)
	}
	for _, n := range []int64{1, 2, 199, 200} {
		checkRead(t, n, magic(numbersAs(n)), impl.MsShort)
	}
	for _, n := range []int64{1, 201, 299, 300} {
		checkRead(t, n, magic(numbersAs(0, n)), impl.MsShort)
	}
	full := impl.Mesh{Verts: placesInRow(200), Tris: fansOf(200, 300)}
	checkRead(t, "as many as may be", summed(unsummed(full)), impl.MsOk)
	checkRead(t, "one place more", summed(unsummed(impl.Mesh{Verts: placesInRow(201), Tris: full.Tris})), impl.MsForm)
	checkRead(t, "one triangle more", summed(unsummed(impl.Mesh{Verts: full.Verts, Tris: append(full.Tris, full.Tris[0])})), impl.MsForm)
}

// Meshes that are not as they should be, with a sum that is right, with another one, cut off, and with more behind.
func TestBytesOfNoMeshes(t *testing.T) {
	var list []impl.Mesh
	for _, bad := range broken3() {
		list = append(list, impl.Mesh{Verts: []impl.V3{bad}}, impl.Mesh{Verts: append(placesInRow(3), bad), Tris: []impl.Tri{tri(0, 1, 2)}})
	}
	for _, f := range []impl.Tri{tri(0, 0, 1), tri(0, 1, 1), tri(1, 0, 2), tri(1, 2, 0), tri(2, 1, 0), tri(0, 1, 3), tri(0, 3, 1), tri(-1, 0, 1), tri(0, -1, 1), tri(0, 1, -1), tri(0, 1, 1<<62)} {
		list = append(list, impl.Mesh{Verts: placesInRow(3), Tris: []impl.Tri{f}}, impl.Mesh{Verts: placesInRow(3), Tris: []impl.Tri{tri(0, 1, 2), f}})
	}
	list = append(list, impl.Mesh{Tris: []impl.Tri{tri(0, 1, 2)}}, impl.Mesh{Tris: []impl.Tri{{}}})
	for _, m := range list {
		b := summed(unsummed(m))
		checkRead(t, "a right sum", b, impl.MsForm)
		other := slices.Clone(b)
		other[len(b)-1] ^= 1
		checkRead(t, "another sum", other, impl.MsForm)
		checkRead(t, "cut off", b[:len(b)-1], impl.MsShort)
		checkRead(t, "cut off", b[:len(b)-2], impl.MsShort)
		checkRead(t, "more behind", append(b, 0), impl.MsForm)
		b[0]++
		checkRead(t, "another first byte", b, impl.MsMagic)
	}
	// What is only seen later: a number that is none goes ahead of the place that is none, and both go ahead of what is cut off
	// behind them.
	checkRead(t, "a place that is none, then a number that is none", magic(numbersAs(1, 1, 0, 0, 1), long(11)), impl.MsForm)
	checkRead(t, "a place that is none, cut off", magic(numbersAs(1, 1, 0, 0, 1)), impl.MsShort)
	checkRead(t, "a place that is none, then too many triangles", magic(numbersAs(1, 1, 0, 0, 1, 0, 1, 301)), impl.MsForm)
	checkRead(t, "a place that is none, then triangles cut off", magic(numbersAs(1, 1, 0, 0, 1, 0, 1, 300, 0)), impl.MsShort)
	checkRead(t, "a triangle that is none, then one cut off", magic(numbersAs(0, 2, 5, 5, 5, 1)), impl.MsShort)
	checkRead(t, "too many places, cut off", magic(numbersAs(201)), impl.MsForm)
	checkRead(t, "too few bytes, and another first one", []byte{83, 77, 2, 4}, impl.MsMagic)
	checkRead(t, "another sum and more behind", []byte{83, 77, 1, 0, 0, 160, 0, 0}, impl.MsForm)
	checkRead(t, "another sum", []byte{83, 77, 1, 0, 0, 160, 0}, impl.MsSum)
	// A sum that is told with 65521 more.
	for _, sum := range []int64{65521, 65530, 65535} {
		b := unsummed(meshOfSum(t, sum))
		checkRead(t, sum, append(slices.Clone(b), byte((sum-65521)%256), 0), impl.MsOk)
		checkRead(t, sum, append(slices.Clone(b), byte(sum%256), byte(sum/256)), impl.MsSum)
	}
}

// Any bytes: turned, cut out, put in, two faults at once.
func TestAnyBytes(t *testing.T) {
	t.Parallel()
	d := dice(99)
	codes := map[int64]int{}
	for range 20000 {
		m := d.anyMesh(3+int(d.next()%4), int(d.next()%4), 200)
		b := summed(unsummed(m))
		for k := d.next() % 4; k > 0 && len(b) > 0; k-- {
			at := int(d.next() % uint64(len(b)))
			switch d.next() % 5 {
			case 0:
				b[at] = byte(d.next())
			case 1:
				b = slices.Insert(b, at, byte(d.next()))
			case 2:
				b = slices.Delete(b, at, at+1)
			case 3:
				b = b[:at]
			case 4:
				b[at] ^= 128
			}
		}
		if d.next()%2 == 0 && len(b) > 2 {
			b = summed(b[:len(b)-2])
		}
		_, code := wantRead(b)
		codes[code]++
		checkRead(t, "any bytes", b, code)
	}
	for code := int64(impl.MsOk); code <= impl.MsSum; code++ {
		if codes[code] < 150 {
			t.Error("too few of a kind:", codes)
		}
	}
}
