package tests

import (
	"reflect"
	"slices"
	"sync"
	"testing"

	"loop.example/g00022/impl"
)

// Promise 23.

// answersOf calls each function that has landed with arguments that the seed gives; text is not to be written into.
func answersOf(seed uint64, text []byte) []any {
	d := dice(seed)
	a, b, small := d.fraction(), d.fraction(), 1+int64(d.next()%100)
	at := &places{dice(d.next()), impl.MaxCoord + 20}
	p := [5]impl.P3{at.three(), at.three(), at.three(), at.three(), at.three()}
	s := [4]impl.P2{at.two(), at.two(), at.two(), at.two()}
	var list []any
	two := func(x any, y any) { list = append(list, x, y) }
	three := func(x any, y any, z any) { list = append(list, x, y, z) }
	list = append(list, impl.QOk(a), impl.QCmp(a, b), impl.QText(a))
	two(impl.QOf(a.Num, b.Num))
	two(impl.QAdd(a, b))
	two(impl.QSub(a, b))
	two(impl.QMul(a, b))
	two(impl.QDiv(a, b))
	two(impl.QFloor(a, b))
	two(impl.QNear(a, small))
	two(impl.QRoot(a, small))
	two(impl.QRead(string(text)))
	list = append(list, impl.Orient2(s[0], s[1], s[2]), impl.InCircle(s[0], s[1], s[2], s[3]))
	list = append(list, impl.Orient3(p[0], p[1], p[2], p[3]), impl.InSphere(p[0], p[1], p[2], p[3], p[4]))
	list = append(list, impl.CmpAlong(p[0], p[1], p[2], p[3]), impl.CmpDist(p[0], p[1], p[2]))
	three(impl.FOrient3(p[0], p[1], p[2], p[3]))
	three(impl.FInCircle(s[0], s[1], s[2], s[3]))
	return slices.Concat(list, lineAnswersOf(seed), regionAnswersOf(seed))
}

func lineAnswersOf(seed uint64) []any {
	s := &spots{dice(seed), int(seed % spotKinds)}
	a, b, c, one, two := s.place(), s.place(), s.place(), s.seg(), s.seg()
	list := []any{impl.VOk(a), impl.SegOk(one), impl.CmpV(a, b), impl.Turn(a, b, c), impl.OnSeg(a, one)}
	pair := func(x any, y any) { list = append(list, x, y) }
	kind, low, high := impl.Meet(one, two)
	list = append(list, kind, low, high)
	pair(impl.Foot(a, one))
	pair(impl.Near(a, one))
	pair(impl.Dist2(a, one))
	pair(impl.SortAlong(a, []impl.V{b, c, one.A, one.B, two.A, two.B}))
	return list
}

func regionAnswersOf(seed uint64) []any {
	s := &shapes{spots{dice(seed), int(seed % 2)}}
	r, ok := impl.MakeRegion(s.loops())
	list := []any{r, ok, impl.RegionOk(r), impl.Where(r, s.place())}
	two := func(x any, y any) { list = append(list, x, y) }
	two(impl.Area2(r))
	two(impl.Middle(r))
	two(impl.Pieces(r))
	two(impl.Move(r, impl.Aff{A: s.coord(), B: s.coord(), C: s.coord(), D: s.coord(), E: s.coord(), F: s.coord()}))
	return list
}

const sameCalls = 300

func TestSameAnswers(t *testing.T) {
	var first [sameCalls][]any
	text := []byte("-123456789/987654321")
	for i := range first {
		first[i] = answersOf(uint64(i), text)
	}
	// Again in another order, so that what a call might keep of those ahead of it would be seen.
	for i := sameCalls - 1; i >= 0; i-- {
		if again := answersOf(uint64(i), text); !reflect.DeepEqual(first[i], again) {
			t.Error(i, "answers", again, "instead of", first[i])
		}
	}
	if string(text) != "-123456789/987654321" {
		t.Errorf("the text is now %s", text)
	}
}

func TestSameAnswersAtOnce(t *testing.T) {
	var want [sameCalls][]any
	for i := range want {
		want[i] = answersOf(uint64(i), []byte("7.25"))
	}
	var all sync.WaitGroup
	for range 4 {
		all.Go(func() {
			for i := range want {
				if got := answersOf(uint64(i), []byte("7.25")); !reflect.DeepEqual(got, want[i]) {
					t.Error(i, "answers", got, "instead of", want[i])
				}
			}
		})
	}
	all.Wait()
}

// spread puts loops into one stretch of memory, each with other places ahead of it and behind it, and tells that stretch, too.
func spread(loops [][]impl.V) ([][]impl.V, []impl.V) {
	all := []impl.V{at(77, 77)}
	for _, loop := range loops {
		all = append(slices.Concat(all, loop), at(77, 77), at(78, 78))
	}
	list, from := make([][]impl.V, 0, len(loops)+2), 1
	for _, loop := range loops {
		list = append(list, all[from:from+len(loop)])
		from += len(loop) + 2
	}
	return list, all
}

// overwrite writes into all of the memory of loops, and into the spare room behind.
func overwrite(loops [][]impl.V) {
	for _, loop := range loops {
		loop = loop[:cap(loop)]
		for i := range loop {
			loop[i] = at(-5, -5)
		}
	}
	loops = loops[:cap(loops)]
	for i := range loops {
		loops[i] = nil
	}
}

func deepLoops(loops [][]impl.V) [][]impl.V {
	var list [][]impl.V
	for _, loop := range loops {
		list = append(list, slices.Clone(loop))
	}
	return list
}

// regionCalls are the functions of regions, each telling its answer as lists of loops.
func regionCalls() map[string]func([][]impl.V) [][][]impl.V {
	return map[string]func([][]impl.V) [][][]impl.V{
		"MakeRegion": func(loops [][]impl.V) [][][]impl.V {
			r, _ := impl.MakeRegion(loops)
			return [][][]impl.V{r.Loops}
		},
		"Move": func(loops [][]impl.V) [][][]impl.V {
			r, _ := impl.Move(impl.Region{Loops: loops}, aff(1, 0, 0, 1, 0, 0))
			return [][][]impl.V{r.Loops}
		},
		"Move over": func(loops [][]impl.V) [][][]impl.V {
			r, _ := impl.Move(impl.Region{Loops: loops}, aff(0, 1, 1, 0, 0, 0))
			return [][][]impl.V{r.Loops}
		},
		"Pieces": func(loops [][]impl.V) [][][]impl.V {
			list, _ := impl.Pieces(impl.Region{Loops: loops})
			var told [][][]impl.V
			for _, r := range list {
				told = append(told, r.Loops)
			}
			return told
		},
		"the others": func(loops [][]impl.V) [][][]impl.V {
			r := impl.Region{Loops: loops}
			impl.RegionOk(r)
			impl.Where(r, at(1, 1))
			impl.Area2(r)
			impl.Middle(r)
			return nil
		},
	}
}

func TestRegionsShareNothing(t *testing.T) {
	outline := made(t, box(0, 0, 9, 9), box(1, 1, 8, 8), box(2, 2, 3, 3), lp(4, 4, 5, 4, 5, 7), box(10, 0, 11, 1), box(11, 1, 12, 2)).Loops
	other := lps(begun(box(0, 0, 6, 6), 2), backward(box(3, 3, 7, 7)), lp(0, 0, 0, 0, 1, 1))
	for name, call := range regionCalls() {
		for _, clean := range [][][]impl.V{outline, other} {
			loops, memory := spread(clean)
			was := slices.Clone(memory)
			first := call(loops)
			var told [][][]impl.V
			for _, list := range first {
				told = append(told, deepLoops(list))
			}
			for i, list := range first {
				for k := range list {
					// What is written into one list is seen in no other one.
					overwrite(list[k : k+1 : k+1])
					list[k] = slices.Clone(told[i][k])
					for j := range first {
						if !sameLoops(first[j], told[j]) {
							t.Error(name, "shares lists", i, k, "with", j)
						}
					}
				}
			}
			for _, list := range first {
				overwrite(list)
			}
			if !slices.Equal(memory, was) || !sameLoops(loops, clean) || !slices.EqualFunc(call(loops), told, sameLoops) {
				t.Error(name, "writes into", clean, "or shares it")
			}
			if spare := loops[:cap(loops)]; spare[len(clean)] != nil || spare[len(clean)+1] != nil {
				t.Error(name, "writes behind the loops")
			}
		}
	}
}
