package tests

import (
	"fmt"
	"math/big"
	"regexp"
	"slices"
	"strings"
	"testing"

	"loop.example/g00022/impl"
)

// Promise 22: texts of solids.

func numberText(f impl.Q) string {
	if f.Den == 1 {
		return fmt.Sprint(f.Num)
	}
	return fmt.Sprintf("%d/%d", f.Num, f.Den)
}

func wantText(s impl.Solid) string {
	text := fmt.Sprintln("solid", len(s.Faces))
	for _, f := range s.Faces {
		text += fmt.Sprintln("face", numberText(f.Plane.A), numberText(f.Plane.B), numberText(f.Plane.C), numberText(f.Plane.D))
		for _, loop := range f.Region.Loops {
			words := []any{"loop"}
			for _, v := range loop {
				words = append(words, numberText(v.X)+","+numberText(v.Y))
			}
			text += fmt.Sprintln(words...)
		}
	}
	return text
}

const numberForm = `(0|-?[1-9][0-9]*|-?[1-9][0-9]*/[1-9][0-9]*)`

var (
	firstLine = regexp.MustCompile(`^solid (0|[1-9][0-9]*)$`)
	faceLine  = regexp.MustCompile(`^face ` + numberForm + ` ` + numberForm + ` ` + numberForm + ` ` + numberForm + `$`)
	loopLine  = regexp.MustCompile(`^loop( ` + numberForm + `,` + numberForm + `){3,}$`)
)

// readNumbers reads all numbers of a line; false where one is not as it is told.
func readNumbers(line string) ([]impl.Q, bool) {
	var list []impl.Q
	for _, word := range strings.FieldsFunc(line, func(r rune) bool { return r == ' ' || r == ',' })[1:] {
		r, ok := new(big.Rat).SetString(word)
		if !ok {
			return nil, false
		}
		f, ok := asQ(r)
		if !ok || numberText(f) != word {
			return nil, false
		}
		list = append(list, f)
	}
	return list, true
}

// wantReadText goes by the forms of lines: what may follow a line is told by what has been there.
func wantReadText(text string) (impl.Solid, int64) {
	if len(text) > 20000 {
		return impl.Solid{}, -1
	}
	lines := strings.Split(text, "\n")
	count := int64(len(lines)) - 1
	var s impl.Solid
	faces, isBare := int64(0), false
	for i, line := range lines[:count] {
		form := firstLine
		if i > 0 {
			form = loopLine
		}
		if i > 0 && strings.HasPrefix(line, "face") && !isBare && int64(len(s.Faces)) < faces {
			form = faceLine
		}
		numbers, ok := []impl.Q(nil), form.MatchString(line)
		if ok {
			numbers, ok = readNumbers(line)
		}
		if !ok || i > 0 && form == loopLine && len(s.Faces) == 0 {
			return impl.Solid{}, int64(i) + 1
		}
		switch form {
		case firstLine:
			faces = numbers[0].Num
		case faceLine:
			isBare = true
			s.Faces = append(s.Faces, impl.Face{Plane: impl.Plane{A: numbers[0], B: numbers[1], C: numbers[2], D: numbers[3]}})
		default:
			isBare = false
			var loop []impl.V
			for k := 0; k < len(numbers); k += 2 {
				loop = append(loop, impl.V{X: numbers[k], Y: numbers[k+1]})
			}
			last := &s.Faces[len(s.Faces)-1].Region
			last.Loops = append(last.Loops, loop)
		}
	}
	if lines[count] != "" || count == 0 || isBare || int64(len(s.Faces)) < faces {
		return impl.Solid{}, count + 1
	}
	if !impl.SolidOk(s) {
		return impl.Solid{}, count
	}
	return s, 0
}

func checkReadText(t *testing.T, name any, text string) int64 {
	t.Helper()
	want, line := wantReadText(text)
	got, at := impl.SolidRead(text)
	if at != line || !sameSolids(got, want) {
		t.Fatalf("%v: %q is read as %v, %d, not %v, %d", name, text, got, at, want, line)
	}
	return at
}

func checkText(t *testing.T, name any, s impl.Solid) {
	t.Helper()
	text, ok := impl.SolidText(s)
	if want := wantText(s); !ok || text != want {
		t.Fatalf("%v is told as %q, %v, not %q", name, text, ok, want)
	}
	back, line := impl.SolidRead(text)
	if line != 0 || !sameSolids(back, s) || len(text) > impl.MaxText {
		t.Fatal(name, "is read back as", back, line)
	}
}

func TestTextsThereAndBack(t *testing.T) {
	t.Parallel()
	for _, c := range solidCases() {
		for _, o := range []tetras{c.of, c.of.moved(aslant)} {
			if s, ok := o.skin(); ok {
				checkText(t, c.name, s)
			}
		}
	}
	d := dice(220)
	for n := range int64(60) {
		size := []int64{3, 1000, 1000000, 1000000000}[n%4]
		if s, ok := d.stack(1+n%5, size).skin(); ok && impl.SolidOk(s) {
			checkText(t, n, s)
		}
		if s, ok := d.tetraBy(1000, 1+n).skin(); ok && impl.SolidOk(s) {
			checkText(t, n, s)
		}
	}
	for _, c := range []struct{ lo, hi impl.V3 }{
		{v3(top-1, -top, 0), v3(top, 1-top, top)}, {v3(-top, -top, -top), v3(top, top, top)}, {v3(-999999999999999999, 0, 0), v3(999999999999999999, 1, 1)},
		{impl.V3{X: q(-1, top), Y: q(1, 3), Z: q(-top, 7)}, impl.V3{X: q(1, top-1), Y: q(top-1, top), Z: q(top, 7)}},
	} {
		s, ok := impl.Box(c.lo, c.hi)
		if !ok {
			t.Fatal("no box from", c.lo, "to", c.hi)
		}
		checkText(t, c, s)
	}
}

func TestTextsByHand(t *testing.T) {
	frame := lessOf(t, boxOf(t, 0, 0, 0, 3, 3, 1), boxOf(t, 1, 1, 0, 2, 2, 1))
	want := "solid 10\nface -1 0 0 -2\nloop 1,0 2,0 2,1 1,1\nface -1 0 0 0\nloop 0,0 3,0 3,1 0,1\nface 0 -1 0 -2\nloop 1,0 2,0 2,1 1,1\nface 0 -1 0 0\nloop 0,0 3,0 3,1 0,1\n" +
		"face 0 0 -1 0\nloop 0,0 3,0 3,3 0,3\nloop 1,1 1,2 2,2 2,1\nface 0 0 1 1\nloop 0,0 3,0 3,3 0,3\nloop 1,1 1,2 2,2 2,1\n" +
		"face 0 1 0 1\nloop 1,0 2,0 2,1 1,1\nface 0 1 0 3\nloop 0,0 3,0 3,1 0,1\nface 1 0 0 1\nloop 1,0 2,0 2,1 1,1\nface 1 0 0 3\nloop 0,0 3,0 3,1 0,1\n"
	if text, ok := impl.SolidText(frame); !ok || text != want {
		t.Errorf("a frame is told as %q, %v", text, ok)
	}
	slant, _ := impl.Hull3([]impl.V3{v3(0, 0, 0), v3(-2, 0, 0), {X: q(0, 1), Y: q(1, 3), Z: q(0, 1)}, v3(0, 0, 1)})
	want = "solid 4\nface -1 6 2 2\nloop -2,0 0,0 0,1/3\nface 0 -1 0 0\nloop -2,0 0,0 0,1\nface 0 0 -1 0\nloop -2,0 0,0 0,1/3\nface 1 0 0 0\nloop 0,0 1/3,0 0,1\n"
	if text, ok := impl.SolidText(slant); !ok || text != want {
		t.Errorf("a slant one is told as %q, %v", text, ok)
	}
	if text, ok := impl.SolidText(impl.Solid{}); !ok || text != "solid 0\n" {
		t.Errorf("nothing is told as %q, %v", text, ok)
	}
}

// A tetrahedron, line by line.
const tetraText = "solid 4\nface -1 0 0 0\nloop 0,0 2,0 0,1\nface 0 -1 0 0\nloop 0,0 2,0 0,1\nface 0 0 -1 0\nloop 0,0 2,0 0,2\nface 1 1 2 2\nloop 0,0 2,0 0,2\n"

func TestTextsThatCantBeReadByHand(t *testing.T) {
	const face, loop = "face 1 0 0 1\n", "loop 0,0 1,0 0,1\n"
	for _, c := range []struct {
		text string
		want int64
	}{
		{tetraText, 0}, {"solid 0\n", 0}, {"", 1}, {"\n", 1}, {" ", 1}, {"solid 0", 1}, {tetraText[:len(tetraText)-1], 9},
		// The first line.
		{"solid\n", 1}, {"solid \n", 1}, {"solid 0 0\n", 1}, {"solid 0 \n", 1}, {" solid 0\n", 1}, {"solid  0\n", 1}, {"solid\t0\n", 1}, {"Solid 0\n", 1}, {"solids 0\n", 1}, {"0\n", 1},
		{"solid +0\n", 1}, {"solid -0\n", 1}, {"solid 00\n", 1}, {"solid 0/1\n", 1}, {"solid 1/2\n", 1}, {"solid -1\n", 1}, {"solid 0.0\n", 1}, {"solid x\n", 1}, {"solid 0\r\n", 1}, {"solid 0x1\n", 1}, {"solid 1_0\n", 1},
		{"solid 41\n", 2}, {"solid 1000000000000000000\n", 2}, {"solid 1000000000000000001\n", 1}, {"solid 9999999999999999999\n", 1}, {"solid 99999999999999999999999\n", 1},
		{"face 1 0 0 1\n", 1}, {"loop 0,0 1,0 0,1\n", 1}, {"\nsolid 0\n", 1}, {"#\nsolid 0\n", 1},
		// Lines that are missing, and lines that are too many.
		{"solid 1\n", 2}, {"solid 1", 1}, {"solid 1\n" + face, 3}, {"solid 1\nface 1 0 0 1", 2}, {"solid 2\n" + face + loop, 4}, {"solid 2\n" + face + loop + face, 5},
		{"solid 0\n\n", 2}, {"solid 0\nx", 2}, {"solid 0\n" + face, 2}, {"solid 0\n" + loop, 2}, {"solid 0\nsolid 0\n", 2}, {"solid 1\nsolid 1\n", 2}, {"solid 1\n" + face + "solid 1\n", 3},
		{"solid 1\n" + loop, 2}, {"solid 2\n" + face + face + loop, 3}, {"solid 1\n" + face + face, 3}, {"solid 1\n" + face + loop + face, 4}, {"solid 1\n" + face + loop + "\n", 4}, {"solid 1\n" + face + loop + " ", 4},
		{"solid 1\n" + face + "\n" + loop, 3}, {"solid 3" + tetraText[7:], 8}, {"solid 5" + tetraText[7:], 10}, {tetraText + face, 10}, {tetraText + "\n", 10}, {tetraText + "x", 10},
		{tetraText + loop, 10}, {tetraText + loop + loop, 11},
		// Faces.
		{"solid 1\nface 1 0 0\n", 2}, {"solid 1\nface 1 0 0 1 0\n" + loop, 2}, {"solid 1\nface\n", 2}, {"solid 1\nface 1 0 0 1 \n", 2}, {"solid 1\nface 1  0 0 1\n", 2}, {"solid 1\n face 1 0 0 1\n", 2},
		{"solid 1\nface 1 0\t0 1\n", 2}, {"solid 1\nface +1 0 0 1\n", 2}, {"solid 1\nface 01 0 0 1\n", 2}, {"solid 1\nface 1 -0 0 1\n", 2}, {"solid 1\nface 1 0 0 2/4\n", 2}, {"solid 1\nface 1 0 0 2/1\n", 2},
		{"solid 1\nface 1 0 0 1/0\n", 2}, {"solid 1\nface 1 0 0 1/-2\n", 2}, {"solid 1\nface 1 0 0 0/3\n", 2}, {"solid 1\nface 1 0 0 1/03\n", 2}, {"solid 1\nface 1 0 0 /3\n", 2}, {"solid 1\nface 1 0 0 3/\n", 2},
		{"solid 1\nface 1 0 0 1/2/3\n", 2}, {"solid 1\nface 1 0 0 0.5\n", 2}, {"solid 1\nface 1 0 0 1e3\n", 2}, {"solid 1\nface 1 0 0 -\n", 2}, {"solid 1\nface 1 0 0 --1\n", 2}, {"solid 1\nface 1,0 0 1\n", 2},
		{"solid 1\nface 1 0 0 1000000000000000001\n", 2}, {"solid 1\nface 1 0 0 1000000000000000000\n", 3}, {"solid 1\nface 1 0 0 1/1000000000000000001\n", 2}, {"solid 1\nface 1 0 0 -1/1000000000000000000\n", 3},
		{"solid 1\nface 1 0 0 9223372036854775808\n", 2}, {"solid 1\nface 1 0 0 123456789012345678\n", 3}, {"solid 1\nface 0 0 0 0\n" + loop, 3}, {"solid 1\nface 2 0 0 1\n" + loop, 3},
		// Loops.
		{"solid 1\n" + face + "loop\n", 3}, {"solid 1\n" + face + "loop 0,0\n", 3}, {"solid 1\n" + face + "loop 0,0 1,0\n", 3}, {"solid 1\n" + face + loop, 3}, {"solid 1\n" + face + loop + "loop 0,0 1,0\n", 4},
		{"solid 1\n" + face + "loop 0,0 1,0 0 1\n", 3}, {"solid 1\n" + face + "loop 0,0 1,0 01\n", 3}, {"solid 1\n" + face + "loop 0,0 1,0 0,1,2\n", 3}, {"solid 1\n" + face + "loop 0,0 1,0 ,1\n", 3}, {"solid 1\n" + face + "loop 0,0 1,0 0,\n", 3},
		{"solid 1\n" + face + "loop 0,0 1,0 ,\n", 3}, {"solid 1\n" + face + "loop 0,0 1,0  0,1\n", 3}, {"solid 1\n" + face + "loop 0,0 1,0 0,1 \n", 3}, {"solid 1\n" + face + " loop 0,0 1,0 0,1\n", 3}, {"solid 1\n" + face + "loop 0,0 1,0 0, 1\n", 3},
		{"solid 1\n" + face + "loop 0,0 1,0 0,+1\n", 3}, {"solid 1\n" + face + "loop 0,0 1,0 0,-0\n", 3}, {"solid 1\n" + face + "loop 0,0 1,0 0,1/1\n", 3}, {"solid 1\n" + face + "loop 0,0 1,0 0,2/4\n", 3}, {"solid 1\n" + face + "loop 0,0 1,0 0;1\n", 3},
		{"solid 1\n" + face + "loops 0,0 1,0 0,1\n", 3}, {"solid 1\n" + face + "0,0 1,0 0,1\n", 3}, {"solid 1\n" + face + "loop 0,0 1,0 0,1", 3}, {"solid 1\n" + face + "loop 0,0 1,0 0,1\r\n", 3}, {"solid 1\n" + face + "loop 0,0 1,0 0,1\x00\n", 3},
		// All as it should be, but no solid.
		{strings.Replace(tetraText, "0,1\n", "0,3\n", 1), 9}, {strings.Replace(tetraText, "face 1 1 2 2", "face 1 1 2 3", 1), 9}, {strings.Replace(tetraText, "loop 0,0 2,0 0,1", "loop 2,0 0,1 0,0", 1), 9},
		{strings.Replace(tetraText, "loop 0,0 2,0 0,1\n", "loop 0,0 2,0 0,1\nloop 5,5 6,5 5,6\n", 1), 10},
		// Bytes that are no text.
		{"\xff\xfe\n", 1}, {"solid 0\n\xff", 2}, {"solid \xff\n", 1}, {"solid\u00a00\n", 1}, {"solid 0\u2028", 1}, {"\x00", 1}, {"solid ٣\n", 1},
	} {
		if got := checkReadText(t, "by hand", c.text); got != c.want {
			t.Errorf("%q can't be read from line %d on, not %d", c.text, got, c.want)
		}
	}
}

// fitting is a text of lines that are as they should be, of so many bytes.
func fitting(size int) string {
	text := "solid 1\nface 1 0 0 1\n"
	for size-len(text) > 60 {
		text += "loop 0,0 1,0 0,1\n"
	}
	return text + "loop 0,0 1,0 0,1" + strings.Repeat(" 2,2", (size-len(text)-17)/4) + rest((size-len(text)-17)%4) + "\n"
}

// rest makes the last number of a place longer.
func rest(n int) string { return strings.Repeat("7", n) }

func TestTextsAtTheLimit(t *testing.T) {
	for size := 19990; size < 20010; size++ {
		text := fitting(size)
		if len(text) != size {
			t.Fatal("a text of", size, "bytes has", len(text))
		}
		want := int64(strings.Count(text, "\n"))
		if size > 20000 {
			want = -1
		}
		if got := checkReadText(t, size, text); got != want {
			t.Error(size, "bytes can't be read from line", got, "on, not", want)
		}
	}
	for _, text := range []string{strings.Repeat("x", 20000), strings.Repeat("\n", 20000)} {
		if s, line := impl.SolidRead(text); line != 1 || len(s.Faces) > 0 {
			t.Error("is read as", s, line)
		}
		if s, line := impl.SolidRead(text + "\n"); line != -1 || len(s.Faces) > 0 {
			t.Error("is read, though it is too long, as", s, line)
		}
	}
}

// Boxes whose numbers are as long as can be: all that is told can be read.
func TestTextsOfLongNumbers(t *testing.T) {
	var list []impl.Solid
	for i := range int64(6) {
		at := func(k int64) impl.Q { return q(100000000000000003*(i+1)-1-k, 100000000000000003) }
		s, ok := impl.Box(impl.V3{X: at(50000000000000000), Y: at(60000000000000000), Z: at(70000000000000000)}, impl.V3{X: at(1), Y: at(3), Z: at(7)})
		if !ok {
			t.Fatal("no box", i)
		}
		list = append(list, s)
	}
	s := joinedUp(t, list...)
	checkText(t, "six boxes", s)
	if text, _ := impl.SolidText(s); countRims(s) != 144 || len(text) < 10000 {
		t.Error("the text has", len(text), "bytes, for", countRims(s), "places")
	}
}

// Texts that were changed somewhere, held against the other way to read them.
func TestTextsChanged(t *testing.T) {
	t.Parallel()
	d := dice(222)
	texts := []string{tetraText, "solid 0\n"}
	for _, c := range solidCases()[1:8] {
		s, _ := c.of.skin()
		texts = append(texts, wantText(s))
		s, _ = c.of.moved(aslant).skin()
		texts = append(texts, wantText(s))
	}
	letters := []string{" ", "\n", "\t", ",", "/", "-", "+", "0", "1", "2", "9", "x", ".", "solid ", "face ", "loop ", "\xff", "\r"}
	var count [2]int
	for n := range 6000 {
		text := texts[d.next()%uint64(len(texts))]
		for range 1 + n%2 {
			at := int(d.next() % uint64(len(text)))
			lines := strings.SplitAfter(text, "\n")
			k := int(d.next() % uint64(len(lines)))
			switch d.next() % 6 {
			case 0:
				text = text[:at] + text[at+1:]
			case 1:
				text = text[:at] + letters[d.next()%uint64(len(letters))] + text[at+1:]
			case 2:
				text = text[:at] + letters[d.next()%uint64(len(letters))] + text[at:]
			case 3:
				text = strings.Join(slices.Delete(lines, k, k+1), "")
			case 4:
				text = strings.Join(slices.Insert(lines, k, lines[d.next()%uint64(len(lines))]), "")
			case 5:
				text = text[:at]
			}
			if text == "" {
				text = "\n"
			}
		}
		if checkReadText(t, n, text) == 0 {
			count[1]++
		} else {
			count[0]++
		}
	}
	if count[0] < 4000 || count[1] < 20 {
		t.Error("too few of a kind:", count)
	}
}
