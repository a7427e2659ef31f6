package tests

import (
	"reflect"
	"slices"
	"testing"

	"loop.example/g00022/impl"
)

// Promise 23: sketches and histories.

func sketchAnswersOf(seed uint64) []any {
	d := dice(seed)
	points := 1 + int64(seed%8)
	s, places := d.sketch(points, int(seed%17), int(seed%3)), d.places(points, 9)
	list := []any{impl.SketchOk(s)}
	two := func(x any, y any) { list = append(list, x, y) }
	two(impl.Solve(s, places))
	two(impl.Unmet(s, places))
	two(impl.PartsOf(s))
	two(impl.Drag(s, places, int64(d.next()%uint64(points)), at(3, 4), 1+int64(seed%6)))
	return list
}

func historyAnswersOf(seed uint64) []any {
	d := dice(seed)
	h := d.history(int(seed % 5))
	list := []any{impl.HistoryOk(h)}
	two := func(x any, y any) { list = append(list, x, y) }
	old, ok := impl.Rebuild(h)
	two(old, ok)
	more := copyHistory(h)
	for i := range more.Params {
		more.Params[i] = q(d.upTo(3), 1)
	}
	again, n, ok := impl.Again(h, old, more)
	list = append(list, again, n, ok)
	names, ok := impl.Names(h)
	two(names, ok)
	two(impl.FindName(h, want0(names)))
	return list
}

// handedSketch is s with other rules behind it, and tells whether all of that is as it was.
func handedSketch(s impl.Sketch) (impl.Sketch, func() bool) {
	other := rl(impl.RuAt, 0, 77, 78)
	rules := slices.Concat([]impl.Rule{other}, s.Rules, []impl.Rule{other, other})
	was := slices.Clone(rules)
	handed := impl.Sketch{Points: s.Points, Rules: rules[1 : 1+len(s.Rules)]}
	return handed, func() bool {
		return slices.Equal(rules, was)
	}
}

func sketchesToHand() []solveCase {
	return slices.Concat(kindCases(), alikeCases(), spareCases(), clashCases())
}

func TestSketchesShareNothing(t *testing.T) {
	other := at(77, 77)
	for _, c := range sketchesToHand() {
		s, stays := handedSketch(c.s)
		memory := slices.Concat([]impl.V{other}, c.start, []impl.V{other, other})
		was := slices.Clone(memory)
		start := memory[1 : 1+len(c.start)]
		a, _ := impl.Solve(s, start)
		fill(a.Places, other)
		fill(a.Spare, -5)
		fill(a.Clash, -5)
		if again, ok := impl.Solve(s, start); !ok || !sameAnswers(again, c.want) {
			t.Error(c.name, "is now", again, ok, "not", c.want)
		}
		unmet, _ := impl.Unmet(s, start)
		told := slices.Clone(unmet)
		fill(unmet, -5)
		if again, ok := impl.Unmet(s, start); !ok || !slices.Equal(again, told) {
			t.Error(c.name, "leaves unmet", again, ok, "not", told)
		}
		parts, _ := impl.PartsOf(s)
		for i, part := range parts {
			was := fill(part, -5)
			for k, group := range parts {
				if k != i && slices.Contains(group, -5) {
					t.Error(c.name, "shares the part", i, "with", k)
				}
			}
			copy(part[:cap(part)], was)
		}
		groups := wantGroups(c.s)
		if !sameGroups(parts, groups) {
			t.Error(c.name, "has the parts", parts)
		}
		fill(parts, nil)
		if again, ok := impl.PartsOf(s); !ok || !sameGroups(again, groups) {
			t.Error(c.name, "has now the parts", again, ok)
		}
		impl.SketchOk(s)
		if !stays() || !slices.Equal(memory, was) {
			t.Error(c.name, "was written into", memory)
		}
	}
}

func TestDragsShareNothing(t *testing.T) {
	other := at(77, 77)
	for _, c := range sketchesToHand() {
		s, stays := handedSketch(c.s)
		memory := slices.Concat([]impl.V{other}, c.start, []impl.V{other, other})
		was := slices.Clone(memory)
		start := memory[1 : 1+len(c.start)]
		drag := func() [][]impl.V { return firstOf(impl.Drag(s, start, 0, at(5, 7), 3)) }
		list := drag()
		told := deepLoops(list)
		for i, step := range list {
			was := fill(step, other)
			for k := range list {
				if k != i && !slices.Equal(list[k], told[k]) {
					t.Error(c.name, "shares the step", i, "with", k)
				}
			}
			copy(step[:cap(step)], was)
		}
		overwrite(list)
		if again := drag(); !sameLoops(again, told) || len(told) == 0 && len(c.want.Clash) == 0 {
			t.Error(c.name, "is drawn to", again, "not", told)
		}
		// What is refused is left as it was, too.
		impl.Drag(s, start, 0, at(5, 7), 7)
		impl.Drag(s, memory, 0, at(5, 7), 1)
		impl.Solve(s, memory)
		if !stays() || !slices.Equal(memory, was) {
			t.Error(c.name, "was written into", memory)
		}
	}
}

// handedHistory is h with other things behind each list, and tells whether all of that is as it was.
func handedHistory(h impl.History) (impl.History, func() bool) {
	lie := impl.Term{Param: 77, By: q(7, 7), Add: q(8, 8)}
	feats := []impl.Feat{}
	var terms [][]impl.Term
	for _, f := range h.Feats {
		memory := slices.Concat([]impl.Term{lie}, f.Nums, []impl.Term{lie, lie})
		terms = append(terms, memory)
		f.Nums = memory[1 : 1+len(f.Nums)]
		feats = append(feats, f)
	}
	feats = append(feats, ft(77, 78, 79, 80, 81), ft(82, 83, 84, 85, 86))
	params := slices.Concat(h.Params, []impl.Q{q(7, 7), q(8, 8)})
	var wasTerms [][]impl.Term
	for _, list := range terms {
		wasTerms = append(wasTerms, slices.Clone(list))
	}
	was := copyHistory(impl.History{Params: params, Feats: feats})
	return impl.History{Params: params[:len(h.Params)], Feats: feats[:len(h.Feats)]}, func() bool {
		return reflect.DeepEqual(terms, wasTerms) && reflect.DeepEqual(was, copyHistory(impl.History{Params: params, Feats: feats}))
	}
}

// handedBuilt is a list of what was built, with other things behind each list.
func handedBuilt(list []impl.Built) ([]impl.Built, func() bool) {
	var handed []impl.Built
	var checks []func() bool
	for _, b := range list {
		s, stays := handedSolid(b.Solid)
		handed, checks = append(handed, impl.Built{Id: b.Id, Code: b.Code, Solid: s}), append(checks, stays)
	}
	count := len(handed)
	handed = append(handed, impl.Built{Id: 77}, impl.Built{Id: 78})
	return handed[:count], func() bool {
		for i, b := range handed[:count] {
			if !checks[i]() || b.Id != list[i].Id || b.Code != list[i].Code {
				return false
			}
		}
		return reflect.DeepEqual(handed[count:], []impl.Built{{Id: 77}, {Id: 78}})
	}
}

// checkBuiltApart writes into each list of what was built, and sees it in no other one, and not in what is built again.
func checkBuiltApart(t *testing.T, name string, call func() []impl.Built) {
	t.Helper()
	list := call()
	told := copyBuilt(list)
	apart := func(i int) {
		for k, b := range list {
			if k != i && !sameBuilt(b, told[k]) {
				t.Error(name, "shares the solid of", i, "with", k)
			}
		}
	}
	for i, b := range list {
		for _, f := range b.Solid.Faces {
			for _, loop := range f.Region.Loops {
				fill(loop, at(-5, -5))
				apart(i)
			}
			fill(f.Region.Loops, nil)
			apart(i)
		}
		fill(b.Solid.Faces, impl.Face{})
		apart(i)
		list[i].Solid = copySolid(told[i].Solid)
	}
	fill(list, impl.Built{Id: -5})
	if again := call(); len(told) == 0 || !slices.EqualFunc(again, told, sameBuilt) {
		t.Error(name, "is now", codesOf(again), "not", codesOf(told))
	}
}

func historiesToHand() map[string]impl.History {
	list := map[string]impl.History{"the workshop": workshop()}
	for _, c := range slices.Concat(makingCases()[1:], lostCases(), halfCases()[:3]) {
		list[c.name] = c.h
	}
	for _, c := range slices.Concat(joinedNames(), otherNames()) {
		if len(c.h.Feats) > 0 {
			list["named: "+c.name] = c.h
		}
	}
	return list
}

func TestHistoriesShareNothing(t *testing.T) {
	t.Parallel()
	for name, clean := range historiesToHand() {
		h, stays := handedHistory(clean)
		checkBuiltApart(t, "Rebuild of "+name, func() []impl.Built { return firstOf(impl.Rebuild(h)) })
		first, _ := impl.Rebuild(h)
		old, staysToo := handedBuilt(first)
		other, staysAlso := handedHistory(impl.History{Params: clean.Params, Feats: append(slices.Clone(clean.Feats[:len(clean.Feats)-1]), ft(1000, impl.FtMove, clean.Feats[0].Id, 0, 1, 2, 3))})
		for _, next := range []impl.History{h, other} {
			if !impl.HistoryOk(next) {
				continue
			}
			checkBuiltApart(t, "Again of "+name, func() []impl.Built {
				list, _, _ := impl.Again(h, old, next)
				return list
			})
		}
		names, _ := impl.Names(h)
		told := slices.Clone(names)
		fill(names, nm(-5, -5))
		if again, _ := impl.Names(h); !slices.Equal(again, told) {
			t.Error(name, "has now the names", again, "not", told)
		}
		impl.FindName(h, nm(1, 1))
		impl.HistoryOk(h)
		// What is refused is left as it was, too.
		impl.Again(h, old[:len(old)-1], h)
		impl.Again(other, old, h)
		impl.Rebuild(impl.History{Params: h.Params[:0], Feats: h.Feats[:cap(h.Feats)]})
		if !stays() || !staysToo() || !staysAlso() {
			t.Error(name, "was written into")
		}
		// What is written into the old list later is not seen in what was made of it.
		list, _, _ := impl.Again(h, old, h)
		for _, b := range old {
			for _, f := range b.Solid.Faces {
				overwrite(f.Region.Loops)
			}
			fill(b.Solid.Faces, impl.Face{})
		}
		if !slices.EqualFunc(list, first, sameBuilt) {
			t.Error(name, "is, written into the old list,", codesOf(list))
		}
	}
}
