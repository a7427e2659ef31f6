package tests

import (
	"reflect"
	"sync"
	"testing"

	"loop.example/g00022/impl"
)

// Promise 23.

// answersOf calls each function that has landed with arguments that the seed gives; text is not to be written into.
func answersOf(seed uint64, text []byte) []any {
	d := dice(seed)
	a, b, small := d.fraction(), d.fraction(), 1+int64(d.next()%100)
	at := &places{dice(d.next()), impl.MaxCoord + 20}
	p := [5]impl.P3{at.three(), at.three(), at.three(), at.three(), at.three()}
	s := [4]impl.P2{at.two(), at.two(), at.two(), at.two()}
	var list []any
	two := func(x any, y any) { list = append(list, x, y) }
	three := func(x any, y any, z any) { list = append(list, x, y, z) }
	list = append(list, impl.QOk(a), impl.QCmp(a, b), impl.QText(a))
	two(impl.QOf(a.Num, b.Num))
	two(impl.QAdd(a, b))
	two(impl.QSub(a, b))
	two(impl.QMul(a, b))
	two(impl.QDiv(a, b))
	two(impl.QFloor(a, b))
	two(impl.QNear(a, small))
	two(impl.QRoot(a, small))
	two(impl.QRead(string(text)))
	list = append(list, impl.Orient2(s[0], s[1], s[2]), impl.InCircle(s[0], s[1], s[2], s[3]))
	list = append(list, impl.Orient3(p[0], p[1], p[2], p[3]), impl.InSphere(p[0], p[1], p[2], p[3], p[4]))
	list = append(list, impl.CmpAlong(p[0], p[1], p[2], p[3]), impl.CmpDist(p[0], p[1], p[2]))
	three(impl.FOrient3(p[0], p[1], p[2], p[3]))
	three(impl.FInCircle(s[0], s[1], s[2], s[3]))
	return append(list, lineAnswersOf(seed)...)
}

func lineAnswersOf(seed uint64) []any {
	s := &spots{dice(seed), int(seed % spotKinds)}
	a, b, c, one, two := s.place(), s.place(), s.place(), s.seg(), s.seg()
	list := []any{impl.VOk(a), impl.SegOk(one), impl.CmpV(a, b), impl.Turn(a, b, c), impl.OnSeg(a, one)}
	pair := func(x any, y any) { list = append(list, x, y) }
	kind, low, high := impl.Meet(one, two)
	list = append(list, kind, low, high)
	pair(impl.Foot(a, one))
	pair(impl.Near(a, one))
	pair(impl.Dist2(a, one))
	pair(impl.SortAlong(a, []impl.V{b, c, one.A, one.B, two.A, two.B}))
	return list
}

const sameCalls = 300

func TestSameAnswers(t *testing.T) {
	var first [sameCalls][]any
	text := []byte("-123456789/987654321")
	for i := range first {
		first[i] = answersOf(uint64(i), text)
	}
	// Again in another order, so that what a call might keep of those ahead of it would be seen.
	for i := sameCalls - 1; i >= 0; i-- {
		if again := answersOf(uint64(i), text); !reflect.DeepEqual(first[i], again) {
			t.Error(i, "answers", again, "instead of", first[i])
		}
	}
	if string(text) != "-123456789/987654321" {
		t.Errorf("the text is now %s", text)
	}
}

func TestSameAnswersAtOnce(t *testing.T) {
	var want [sameCalls][]any
	for i := range want {
		want[i] = answersOf(uint64(i), []byte("7.25"))
	}
	var all sync.WaitGroup
	for range 4 {
		all.Go(func() {
			for i := range want {
				if got := answersOf(uint64(i), []byte("7.25")); !reflect.DeepEqual(got, want[i]) {
					t.Error(i, "answers", got, "instead of", want[i])
				}
			}
		})
	}
	all.Wait()
}
