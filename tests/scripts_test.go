package tests

import (
	"fmt"
	"math/big"
	"regexp"
	"slices"
	"strings"
	"testing"

	"loop.example/g00022/impl"
)

// Promise 22: scripts.

// checkSaid wants lines and what each of them says, by turns; "" for nothing.
func checkSaid(t *testing.T, name string, pairs ...string) {
	t.Helper()
	text, want := "", ""
	for i := 0; i < len(pairs); i += 2 {
		text += pairs[i] + "\n"
		if pairs[i+1] != "" {
			want += pairs[i+1] + "\n"
		}
	}
	for _, script := range []string{text, strings.TrimSuffix(text, "\n")} {
		if got := impl.RunScript(script); got != want {
			t.Errorf("%s: %q says %q, not %q", name, script, got, want)
		}
	}
	if other := wantSaid(text); other != want {
		t.Errorf("%s: %q should say %q, not %q", name, text, other, want)
	}
}

// checkScript wants what a whole text says.
func checkScript(t *testing.T, name, script, want string) {
	t.Helper()
	if got := impl.RunScript(script); got != want {
		t.Errorf("%s: %q says %q, not %q", name, script, got, want)
	}
	if other := wantSaid(script); other != want {
		t.Errorf("%s: %q should say %q, not %q", name, script, other, want)
	}
}

var scriptForms = []*regexp.Regexp{
	regexp.MustCompile(`^box ([a-z])()()((?: [^ ]+){6})$`), regexp.MustCompile(`^prism ([a-z])()()((?: [^ ]+){2}(?:(?: [^ ]+){2}){3,})$`),
	regexp.MustCompile(`^hull ([a-z])()()((?:(?: [^ ]+){3})+)$`), regexp.MustCompile(`^join ([a-z]) ([a-z]) (?:and|or|less|xor) ([a-z])()$`),
	regexp.MustCompile(`^move ([a-z]) ([a-z])()((?: [^ ]+){3})$`), regexp.MustCompile(`^half ([a-z]) ([a-z])()((?: [^ ]+){4})$`), regexp.MustCompile(`^mesh ([a-z]) ([a-z])()()$`),
	regexp.MustCompile(`^(?:vol|shade|show)() ([a-z])()()$`), regexp.MustCompile(`^where() ([a-z])()((?: [^ ]+){3})$`), regexp.MustCompile(`^(?:same|over)() ([a-z]) ([a-z])()$`),
	regexp.MustCompile(`^slice() ([a-z])()( [^ ]+)$`),
}

// wantSaid goes by the forms of lines.
func wantSaid(text string) string {
	solids, answer := map[string]impl.Solid{}, ""
	lines := strings.Split(text, "\n")
	// Behind the last line's end there is no line.
	if last := len(lines) - 1; lines[last] == "" {
		lines = lines[:last]
	}
	for i, line := range lines {
		if i >= 60 {
			return answer + "long\n"
		}
		words := strings.FieldsFunc(line, func(r rune) bool { return r == ' ' })
		if len(words) == 0 {
			continue
		}
		said := wantLine(solids, strings.Join(words, " "))
		if len(answer)+len(said)+1 > 30000 {
			return answer + "long\n"
		}
		answer += said + "\n"
	}
	return answer
}

func wantLine(solids map[string]impl.Solid, line string) string {
	for _, form := range scriptForms {
		parts := form.FindStringSubmatch(line)
		if parts == nil {
			continue
		}
		var numbers []impl.Q
		areRead := true
		for _, word := range strings.Split(parts[4], " ")[1:] {
			f, ok := impl.QRead(word)
			numbers, areRead = append(numbers, f), areRead && ok
		}
		if parts[1] != "" && !areRead {
			return "what"
		}
		var given []impl.Solid
		for _, name := range parts[2:4] {
			s, ok := solids[name]
			if name != "" && !ok {
				return "none"
			}
			given = append(given, s)
		}
		if !areRead {
			return "no"
		}
		words := strings.Split(line, " ")
		if parts[1] == "" {
			return wantAnswer(words[0], given[0], given[1], numbers)
		}
		s, ok := wantMade(words, given[0], given[1], numbers)
		if !ok {
			return "no"
		}
		solids[parts[1]] = s
		return fmt.Sprint("ok ", len(s.Faces))
	}
	return "what"
}

func wantMade(words []string, a, b impl.Solid, n []impl.Q) (impl.Solid, bool) {
	switch words[0] {
	case "box":
		return impl.Box(impl.V3{X: n[0], Y: n[1], Z: n[2]}, impl.V3{X: n[3], Y: n[4], Z: n[5]})
	case "prism":
		r, ok := impl.MakeRegion([][]impl.V{loopOf(n)})
		s, fine := impl.Prism(r, n[0], n[1])
		return s, ok && fine
	case "hull":
		var places []impl.V3
		for i := 0; i < len(n); i += 3 {
			places = append(places, impl.V3{X: n[i], Y: n[i+1], Z: n[i+2]})
		}
		return impl.Hull3(places)
	case "join":
		return impl.Join(a, b, map[string]int64{"and": impl.OpAnd, "or": impl.OpOr, "less": impl.OpLess, "xor": impl.OpXor}[words[3]])
	case "move":
		m := identity()
		m.X, m.Y, m.Z = n[0], n[1], n[2]
		return impl.MapSolid(a, m)
	case "half":
		return impl.Cut(a, impl.Plane{A: n[0], B: n[1], C: n[2], D: n[3]})
	}
	m, ok1 := impl.MeshOf(a)
	finer, ok2 := impl.Subdivide(m)
	s, ok3 := impl.SolidOf(finer)
	return s, ok1 && ok2 && ok3
}

func wantAnswer(word string, a, b impl.Solid, n []impl.Q) string {
	yes := map[bool]string{true: "yes", false: "no"}
	switch word {
	case "vol":
		if m, ok := impl.Mass(a); ok {
			return "vol " + impl.QText(m.Vol)
		}
	case "where":
		return []string{"out", "on", "in"}[impl.Inside(a, impl.V3{X: n[0], Y: n[1], Z: n[2]})]
	case "same":
		return yes[sameSolids(a, b)]
	case "over":
		return yes[impl.Overlap(a, b) == 1]
	case "slice":
		low, high, ok := impl.SliceAt(a, n[0])
		below, ok1 := impl.Area2(low)
		above, ok2 := impl.Area2(high)
		if ok && ok1 && ok2 {
			return "below " + impl.QText(below) + " above " + impl.QText(above)
		}
	case "shade":
		r, ok := impl.Shadow(a)
		area, fine := impl.Area2(r)
		if ok && fine {
			return "shade " + impl.QText(area)
		}
	case "show":
		return strings.TrimSuffix(wantText(a), "\n")
	}
	return "no"
}

func TestScriptsThatMake(t *testing.T) {
	t.Parallel()
	checkSaid(t, "boxes", "box a 0 0 0 1 2 3", "ok 6", "vol a", "vol 6", "box a 0 0 0 1 2", "what", "box a 0 0 0 1 2 3 4", "what", "box", "what", "box a", "what",
		"box A 0 0 0 1 2 3", "what", "box ab 0 0 0 1 2 3", "what", "box 1 0 0 0 1 2 3", "what", "box \xe9 0 0 0 1 2 3", "what", "box é 0 0 0 1 2 3", "what", "box { 0 0 0 1 2 3", "what", "box ` 0 0 0 1 2 3", "what",
		"box a 0 0 0 1 2 x", "what", "box x 0 0 0 1 2 .5", "what", "box x 0 0 0 1 2 1/0", "what", "box x 0 0 0 1 2 +1", "what", "box x 0 0 0 1 2 1000000000000000000", "what", "vol x", "none",
		"box z 0 0 0 1/2 0.5 05", "ok 6", "vol z", "vol 5/4", "box z -1 -1 -1 -1/2 -0.5 -0", "ok 6", "vol z", "vol 1/4",
		"box z 0 0 0 0 1 1", "no", "vol z", "vol 1/4", "box y 1 1 1 0 0 0", "no", "vol y", "none", "box z 1 1 1 2 2 2", "ok 6", "vol z", "vol 1")
	sides := func(n int) string {
		line := "prism p 0 1"
		for i := range n {
			line += fmt.Sprint(" ", i, " ", i*i)
		}
		return line
	}
	checkSaid(t, "prisms", "prism p 0 1 0 0 2 0 0 2", "ok 5", "vol p", "vol 2", "prism p 0 1 0 0 2 0", "what", "prism p 0 1", "what", "prism p 0 1 0 0 2 0 0", "what", "prism p 0 1 0 0 2 0 0 2 1", "what", "prism p 0 1 0 0 2 0 0 2 1 x", "what",
		"prism p 1 1 0 0 2 0 0 2", "no", "prism p 2 1 0 0 2 0 0 2", "no", "vol p", "vol 2", "prism e 0 1 0 0 1 1 2 2", "ok 0", "vol e", "vol 0", "show e", "solid 0",
		"prism q 0 1 0 0 2 2 2 0 0 2", "ok 8", "vol q", "vol 2", "prism q 0 1 0 0 4 0 4 4 0 4 0 0 1 1 1 2 2 2 2 1 1 1", "ok 10", "vol q", "vol 15",
		sides(26), "ok 28", sides(27), "no", sides(100), "no", sides(101), "no", "prism P 0 1 0 0 2 0 0 2", "what", "prism p x 1 0 0 2 0 0 2", "what")
	checkSaid(t, "hulls", "hull h 0 0 0 1 0 0 0 1 0 0 0 1", "ok 4", "vol h", "vol 1/6", "hull h", "what", "hull h 0 0", "what", "hull h 0 0 0 1", "what", "hull h 0 0 0", "no", "hull h 0 0 0 1 0 0 0 1 0 1 1 0", "no", "vol h", "vol 1/6",
		"hull h 0 0 0 1 0 0 0 1 0 0 0 x", "what", "hull h"+strings.Repeat(" 0 0 0 1 2 3", 5)+" 0 1 0 1 0 0", "ok 4", "hull h"+strings.Repeat(" 0 0 0 1 2 3", 6)+" 0 1 0 1 0 0", "ok 4",
		"hull g"+strings.Repeat(" 0 0 0 1 2 3", 6)+" 0 1 0 1 0 0 0 0 0", "no", "vol g", "none", "hull hh 0 0 0 1 0 0 0 1 0 0 0 1", "what")
	checkSaid(t, "joins", "box a 0 0 0 2 2 2", "ok 6", "box b 1 1 1 3 3 3", "ok 6", "join c a and b", "ok 6", "vol c", "vol 1", "join c a or b", "ok 12", "vol c", "vol 15", "join c a less b", "ok 9", "vol c", "vol 7", "join c b less a", "ok 9", "join c a xor b", "ok 18", "vol c", "vol 14",
		"join c a plus b", "what", "join c a AND b", "what", "join c a and", "what", "join c a b", "what", "join c a and b b", "what", "join c and a b", "what", "join C a and b", "what", "join c A and b", "what", "join c a and 2", "what", "join", "what",
		"join c a and q", "none", "join c q and b", "none", "join c q and q", "none", "join c q plus a", "what", "join c q and Q", "what", "vol c", "vol 14",
		"join a a and a", "ok 6", "same a b", "no", "join a a less a", "ok 0", "vol a", "vol 0", "join b b or b", "ok 6", "join b b xor b", "ok 0", "same a b", "yes")
}

func TestScriptsThatMakeOfOthers(t *testing.T) {
	t.Parallel()
	checkSaid(t, "moves", "box a 0 0 0 1 1 1", "ok 6", "move b a 1 2 3", "ok 6", "where b 1 2 3", "on", "where b 3/2 5/2 3.5", "in", "where b 0 0 0", "out", "move a a 1/2 0 0", "ok 6", "where a 1/4 0 0", "out",
		"move b a 1 2", "what", "move b a 1 2 3 4", "what", "move b a 1 2 x", "what", "move b q 1 2 3", "none", "move b q 1 2 x", "what", "move B a 1 2 3", "what", "move b AA 1 2 3", "what", "move", "what",
		"move c a 999999999999999998 0 0", "no", "vol c", "none", "move b b 999999999999999995 0 0", "ok 6", "move b b 5 0 0", "no", "where b 999999999999999996 2 3", "on", "move b b -999999999999999995 0 0", "ok 6", "where b 1 2 3", "on")
	checkSaid(t, "halves", "box a 0 0 0 2 2 2", "ok 6", "half h a 1 0 0 1", "ok 6", "vol h", "vol 4", "half h a -1 0 0 -1.5", "ok 6", "vol h", "vol 2", "half h a 1 1 1 1", "ok 4", "vol h", "vol 1/6", "half h a 1 0 0 -1", "ok 0",
		"half h a 2 0 0 1", "no", "half h a 0 0 0 1", "no", "half h a 0.5 0 0 1", "no", "half h a 0 2 0 1", "no", "vol h", "vol 0", "half h a 0 0 1 9", "ok 6", "same a h", "yes",
		"half h a 1 0 0", "what", "half h a 1 0 0 1 1", "what", "half h a 1 0 0 y", "what", "half h q 1 0 0 1", "none", "half h q 2 0 0 1", "none", "half h q 1 0 0 y", "what", "half 7 a 1 0 0 1", "what", "half h 7 1 0 0 1", "what", "half", "what")
	gear := "prism g 0 1"
	for i := range 26 {
		gear += fmt.Sprint(" ", i, " ", i*i)
	}
	checkSaid(t, "meshes", "box a 0 0 0 2 2 2", "ok 6", "mesh m a", "ok 6", "same m a", "yes", "box b 1 1 1 3 3 3", "ok 6", "join c a xor b", "ok 18", "mesh m c", "ok 18", "same m c", "yes", "mesh c c", "ok 18", "vol c", "vol 14",
		"mesh m", "what", "mesh m a b", "what", "mesh m M", "what", "mesh 0 a", "what", "mesh m q", "none", "mesh q m", "ok 18", "join e a less a", "ok 0", "mesh e e", "ok 0",
		gear, "ok 28", "mesh m g", "no", "same m c", "yes")
}

func TestScriptsThatAsk(t *testing.T) {
	t.Parallel()
	checkSaid(t, "volumes", "box a 0 0 0 1/2 1/2 1/2", "ok 6", "vol a", "vol 1/8", "vol", "what", "vol a a", "what", "vol A", "what", "vol 1", "what", "vol aa", "what", "vol \xff", "what", "vol b", "none", "Vol a", "what", "volume a", "what",
		"box b 0 0 0 1000000 1000000 1000000", "ok 6", "vol b", "no", "box b 0 0 0 1000 1000 1000", "ok 6", "vol b", "vol 1000000000")
	checkSaid(t, "places", "box a 0 0 0 2 2 2", "ok 6", "where a 1 1 1", "in", "where a 1 1 0", "on", "where a 2 2 2", "on", "where a 1 1 2.01", "out", "where a 1 1", "what", "where a 1 1 1 1", "what", "where", "what", "where A 1 1 1", "what",
		"where a 1 1 x", "no", "where a x y z", "no", "where a 1 1 1/0", "no", "where a 1 1 1e3", "no", "where b 1 1 1", "none", "where b 1 1 x", "none", "where 5 1 1 x", "what", "where b 1 x", "what")
	checkSaid(t, "the same", "box a 0 0 0 2 2 2", "ok 6", "hull b 0 0 0 2 0 0 0 2 0 2 2 0 0 0 2 2 0 2 0 2 2 2 2 2", "ok 6", "same a b", "yes", "same b a", "yes", "same a a", "yes", "box b 0 0 0 2 2 3", "ok 6", "same a b", "no",
		"same a", "what", "same a b b", "what", "same a B", "what", "same a q", "none", "same q a", "none", "same q q", "none", "same", "what", "join e a less a", "ok 0", "same e e", "yes", "same e a", "no")
	checkSaid(t, "what is over", "box a 0 0 0 2 2 2", "ok 6", "box b 1 1 1 3 3 3", "ok 6", "box c 2 0 0 3 1 1", "ok 6", "over a b", "yes", "over b a", "yes", "over a c", "no", "over a a", "yes", "over a", "what", "over a b c", "what", "over a q", "none", "over q a", "none", "over a *", "what",
		"join e a less a", "ok 0", "over e e", "no", "over a e", "no")
	checkSaid(t, "slices", "box a 0 0 0 2 2 2", "ok 6", "slice a 1", "below 8 above 8", "slice a 0", "below 0 above 8", "slice a 2", "below 8 above 0", "slice a 2.5", "below 0 above 0", "slice a -1/3", "below 0 above 0", "slice a", "what", "slice a 1 1", "what", "slice a x", "no", "slice a 1/0", "no",
		"slice q 1", "none", "slice q x", "none", "slice Q x", "what", "hull h 0 0 0 3 0 0 0 3 0 0 0 3", "ok 4", "slice h 1/2", "below 25/4 above 25/4", "box b 0 0 0 10000000000 10000000000 1", "ok 6", "slice b 1/2", "no", "slice b 2", "below 0 above 0",
		"join e a less a", "ok 0", "slice e 0", "below 0 above 0")
	checkSaid(t, "shadows", "box a 0 0 0 2 2 2", "ok 6", "shade a", "shade 8", "box b 1 1 5 3 3 6", "ok 6", "join c a or b", "ok 12", "shade c", "shade 14", "shade", "what", "shade a b", "what", "shade A", "what", "shade q", "none", "join e a less a", "ok 0", "shade e", "shade 0",
		"box b 0 0 0 10000000000 10000000000 1", "ok 6", "shade b", "no")
	checkSaid(t, "texts", "hull h 0 0 0 2 0 0 0 2 0 0 0 1", "ok 4", "show h", strings.TrimSuffix(tetraText, "\n"), "show", "what", "show h h", "what", "show H", "what", "show q", "none")
	checkSaid(t, "what is none of these", "help", "what", "a", "what", "box a 0 0 0 1 1 1", "ok 6", "a", "what", "BOX a 0 0 0 1 1 1", "what", "box, a 0 0 0 1 1 1", "what", "show a;", "what", "\xff\xfe\x00", "what", "\x00", "what", "vol a\x00", "what", "é", "what")
}

func TestScriptsWithBlanks(t *testing.T) {
	for script, want := range map[string]string{
		"": "", "\n": "", "\n\n\n": "", " ": "", "   \n  ": "", "\t": "what\n", " \t \n": "what\n", "\r\n": "what\n", "\v": "what\n", "\u00a0": "what\n",
		"box a 0 0 0 1 1 1": "ok 6\n", "  box   a  0 0 0 1 1 1  ": "ok 6\n", "\n\n box a 0 0 0 1 1 1\n\nvol a": "ok 6\nvol 1\n",
		"box a 0 0 0 1 1 1\r\nvol a\r\n": "what\nwhat\n", "box\ta 0 0 0 1 1 1": "what\n", "box a 0 0 0 1 1 1\t": "what\n", "box a 0 0 0 1 1 1 \t": "what\n", "\tbox a 0 0 0 1 1 1": "what\n",
		"vol a vol a": "what\n", "vol a\n \nvol a\n": "none\nnone\n",
	} {
		if got := impl.RunScript(script); got != want || wantSaid(script) != want {
			t.Errorf("%q says %q, not %q", script, got, want)
		}
	}
}

func TestScriptsOfManyLines(t *testing.T) {
	none, long := strings.Repeat("none\n", 59), "long\n"
	line := "vol a\n"
	for _, c := range []struct {
		name, script, want string
	}{
		{"as many as can be", strings.Repeat(line, 60), none + "none\n"}, {"the last one not ended", strings.Repeat(line, 59) + "vol a", none + "none\n"},
		{"one more", strings.Repeat(line, 61), none + "none\n" + long}, {"many more", strings.Repeat(line, 1000), none + "none\n" + long}, {"one more, not ended", strings.Repeat(line, 60) + "vol a", none + "none\n" + long},
		{"one that says what", strings.Repeat(line, 60) + "x\n", none + "none\n" + long},
		{"without words at the end", strings.Repeat(line, 60) + "\n  \n\n", none + "none\n" + long},
		{"without words among them", strings.Repeat(line, 30) + "\n" + strings.Repeat(line, 29), none}, {"and one more", strings.Repeat(line, 30) + "\n" + strings.Repeat(line, 30), none + long},
		{"without words ahead", strings.Repeat("\n", 59) + line, "none\n"}, {"and one more ahead", strings.Repeat(" \n", 60) + line, long}, {"then without words again", strings.Repeat(line, 60) + "\n\n" + line, none + "none\n" + long},
		{"nothing but lines without words", strings.Repeat("\n", 60), ""}, {"more of them", strings.Repeat("\n", 61), long}, {"many more of them", strings.Repeat("\n", 500), long},
	} {
		checkScript(t, c.name, c.script, c.want)
	}
}

// Of 60 lines the last one may be ended or not, and there is no line behind it; a line number 61 ends the script, whatever it has.
func TestScriptsOfALineMore(t *testing.T) {
	box := "box a 0 0 0 2 2 2"
	for name, c := range map[string]struct{ text, said string }{
		"a box first":            {box + "\n" + strings.Repeat("\n", 59), "ok 6\n"},
		"a box last":             {strings.Repeat("\n", 59) + box + "\n", "ok 6\n"},
		"a box in the middle":    {strings.Repeat(" \n", 20) + box + "\n" + strings.Repeat("  \n", 39), "ok 6\n"},
		"boxes alone":            {strings.Repeat(box+"\n", 60), strings.Repeat("ok 6\n", 60)},
		"none":                   {strings.Repeat("\n", 60), ""},
		"blanks alone":           {strings.Repeat("   \n", 60), ""},
		"a box that can't be":    {strings.Repeat("\n", 59) + "box a 0 0 0 0 0 0\n", "no\n"},
		"a line that is none":    {"x\n" + strings.Repeat("\n", 59), "what\n"},
		"a name without a solid": {"\nvol a\n" + strings.Repeat("\n", 58), "none\n"},
	} {
		checkScript(t, name+", ended", c.text, c.said)
		// Of lines the last of which is empty, the last one is none when its end is taken off.
		checkScript(t, name+", not ended", strings.TrimSuffix(c.text, "\n"), c.said)
		for _, more := range []string{"\n", " ", " \n", "   ", "   \n", "vol a", "vol a\n", "  vol a  ", "x", "x\n", "\t", "\r\n", "\x00", "\n\n", " \n ", "\nvol a\n", " \n\nvol a", "vol a\n\n"} {
			checkScript(t, fmt.Sprintf("%s, and %q", name, more), c.text+more, c.said+"long\n")
		}
	}
}

// Lines are counted alike, be they with words or without.
func TestScriptsCountAllLines(t *testing.T) {
	for count := range 70 {
		for _, line := range []string{"\n", "  \n", "vol a\n", "x\n"} {
			said := map[string]string{"vol a\n": "none\n", "x\n": "what\n"}[line]
			want := strings.Repeat(said, min(count, 60))
			if count > 60 {
				want += "long\n"
			}
			checkScript(t, fmt.Sprintf("%d lines %q", count, line), strings.Repeat(line, count), want)
		}
	}
}

// longScript says so many bytes in all, at less than 60 lines.
func longScript(t *testing.T, bytes int) string {
	t.Helper()
	script := "box a 100000000000000001 100000000000000002 100000000000000003 100000000000000004 100000000000000005 100000000000000006\nbox b 0 0 0 1 1 1\nbox e 0 0 0 100000000 100000000 1\njoin c a or b\n"
	for i := range 5 {
		script += fmt.Sprintf("move d a %d 0 0\njoin c c or d\n", 10*(i+1))
	}
	made := impl.RunScript(script)
	left := bytes - len(made)
	for _, line := range []string{"show c\n", "show a\n", "show b\n", "slice e 1/2\n", "slice b 1/2\n"} {
		size := len(impl.RunScript(script+line)) - len(made)
		for ; left > size+10; left -= size {
			script += line
		}
		made = impl.RunScript(script)
	}
	for ; left > 9; left -= 5 {
		script += "what\n"
	}
	short := map[int]string{3: "same a b\n", 4: "same a a\n", 5: "what\n", 6: "vol b\n", 7: "same a a\nsame a b\n", 8: "same a b\nwhat\n", 9: "same a a\nwhat\n"}
	return script + short[left]
}

func TestScriptsOfLongAnswers(t *testing.T) {
	t.Parallel()
	for size := 29997; size <= 30004; size++ {
		script := longScript(t, size)
		if lines := strings.Count(script, "\n"); lines >= 60 {
			t.Fatal(size, "takes", lines, "lines")
		}
		got, want := impl.RunScript(script), wantSaid(script)
		if got != want || size <= 30000 && len(got) != size || strings.HasSuffix(got, "\nlong\n") != (size > 30000) {
			t.Errorf("%d bytes: says %d bytes, not %d, to the end %q", size, len(got), len(want), got[len(got)-20:])
		}
	}
	// A line that says more than there is room for says nothing, and neither do shorter ones behind it.
	script := longScript(t, 29999)
	if got := impl.RunScript(script + "vol b\nsame a b\n"); len(got) != 29999+5 || !strings.HasSuffix(got, "\nlong\n") {
		t.Error("says", len(got), "bytes")
	}
	if got := impl.RunScript(longScript(t, 29997) + "same a b\n"); len(got) != 30000 || !strings.HasSuffix(got, "\nno\n") {
		t.Error("says", len(got), "bytes")
	}
	if got := impl.RunScript(longScript(t, 30000) + "\n  \n"); len(got) != 30000 {
		t.Error("says, with lines without words,", len(got), "bytes")
	}
}

// What is shown can be read, and is the solid.
func TestShownSolids(t *testing.T) {
	script := "box a 0 0 0 3 3 3\nbox b 1 1 1 2 2 2\njoin c a less b\nhull d 0 0 4 3 0 4 0 3 4 1 1 7\njoin e c or d\nmesh f e\n"
	for _, name := range []string{"a", "b", "c", "d", "e", "f"} {
		head, said := impl.RunScript(script), impl.RunScript(script+"show "+name)
		s, line := impl.SolidRead(strings.TrimPrefix(said, head))
		if line != 0 || !strings.HasPrefix(said, head) {
			t.Fatal(name, "is shown as", said)
		}
		if again, _ := impl.SolidText(s); head+again != said {
			t.Error(name, "is read as", s)
		}
	}
}

// anyScript has lines of all kinds, most of them as they should be.
func (d *dice) anyScript(lines int) string {
	name := func() string { return string("abcd"[d.next()%4]) }
	number := func() string {
		list := []string{"0", "1", "2", "3", "4", "-1", "1/2", "3/2", "2.5", "x", "-0", "7/3"}
		return list[(d.next()%64)%uint64(len(list))]
	}
	numbers := func(n int) string {
		text := ""
		for range n {
			text += " " + number()
		}
		return text
	}
	text := "box a 0 0 0 2 2 2\nbox b 1 1 1 3 3 3\nhull c 0 0 0 4 0 0 0 4 0 0 0 4\n"
	for range lines {
		line := ""
		switch d.next() % 16 {
		case 0, 1:
			line = "box " + name() + fmt.Sprint(" ", d.upTo(3), " ", d.upTo(3), " ", d.upTo(3), " ", 3+d.upTo(2), " ", 3+d.upTo(2), " ", 3+d.upTo(2))
		case 2:
			line = "prism " + name() + " 0 1" + numbers(2*(2+int(d.next()%4)))
		case 3:
			line = "hull " + name() + numbers(3*(3+int(d.next()%3)))
		case 4, 5, 6:
			line = "join " + name() + " " + name() + " " + []string{"and", "or", "less", "xor", "nor"}[(d.next()%21)%5] + " " + name()
		case 7:
			line = "move " + name() + " " + name() + numbers(3)
		case 8:
			line = "half " + name() + " " + name() + " " + []string{"1", "-1", "0", "2"}[d.next()%4] + numbers(3)
		case 9:
			line = "mesh " + name() + " " + name()
		case 10:
			line = "where " + name() + numbers(3)
		case 11:
			line = []string{"same ", "over "}[d.next()%2] + name() + " " + name()
		case 12:
			line = "slice " + name() + " " + number()
		default:
			line = []string{"vol ", "shade ", "show "}[d.next()%3] + name()
		}
		if d.next()%9 == 0 {
			at := d.next() % uint64(len(line))
			line = line[:at] + []string{" ", "z", "q", "", "\t", "\n", "  ", "A"}[d.next()%8] + line[at+1:]
		}
		text += line + "\n"
	}
	return text
}

func TestScriptsMany(t *testing.T) {
	t.Parallel()
	d, said := dice(230), map[string]int{}
	for n := range 60 {
		script := d.anyScript(50 + n%10)
		got, want := impl.RunScript(script), wantSaid(script)
		if got != want {
			t.Fatalf("%q says %q, not %q", script, got, want)
		}
		for _, line := range strings.Split(got, "\n") {
			said[strings.Split(line, " ")[0]]++
		}
	}
	for _, word := range []string{"ok", "no", "none", "what", "long", "vol", "shade", "below", "out", "on", "in", "yes", "solid"} {
		if said[word] < 3 {
			t.Error("is said only", said[word], "times:", word)
		}
	}
}

// The volumes of what two have in common and of what they make together are together those of both.
func TestScriptsFitTogether(t *testing.T) {
	t.Parallel()
	d := dice(231)
	held, meshed := 0, 0
	for range 60 {
		script := fmt.Sprintf("hull a %d %d %d %d %d %d %d %d %d %d %d %d\n", anyNumbers(&d, 12, 5)...) + fmt.Sprintf("hull b %d %d %d %d %d %d %d %d %d %d %d %d\n", anyNumbers(&d, 12, 5)...) +
			"join c a and b\njoin d a or b\njoin e a less b\njoin f a xor b\nvol a\nvol b\nvol c\nvol d\nvol e\nvol f\nmesh g d\nsame g d\nover a b\nover c e\njoin h c or e\nsame h a\njoin h d less c\nsame h f\n"
		lines := strings.Split(impl.RunScript(script), "\n")
		if slices.Contains(lines[:12], "no") {
			continue
		}
		held++
		var volumes []*big.Rat
		for _, line := range lines[6:12] {
			r, ok := new(big.Rat).SetString(strings.TrimPrefix(line, "vol "))
			if !ok {
				t.Fatalf("%q says %q", script, line)
			}
			volumes = append(volumes, r)
		}
		if plusRat(volumes[0], volumes[1]).Cmp(plusRat(volumes[2], volumes[3])) != 0 || minusRat(volumes[0], volumes[2]).Cmp(volumes[4]) != 0 || minusRat(volumes[3], volumes[2]).Cmp(volumes[5]) != 0 {
			t.Fatalf("%q says %q", script, lines)
		}
		over := map[bool]string{true: "yes", false: "no"}[volumes[2].Sign() > 0]
		rest := lines[12:]
		if rest[0] == "no" {
			// Middles that are no V3s, or too many triangles.
			rest[0], rest[1] = lines[3], map[string]string{"none": "yes"}[rest[1]]
		} else {
			meshed++
		}
		if rest[0] != lines[3] || rest[1] != "yes" || rest[2] != over || rest[3] != "no" || rest[5] != "yes" || rest[7] != "yes" {
			t.Fatalf("%q says %q", script, lines)
		}
	}
	if held < 20 || meshed < 5 {
		t.Error("only", held, "are told, and", meshed, "made into meshes")
	}
}

func anyNumbers(d *dice, n int, most int64) []any {
	var list []any
	for range n {
		list = append(list, d.upTo(most))
	}
	return list
}
