package tests

import (
	"fmt"
	"math/rand"
	"slices"
	"strings"
	"testing"

	"loop.example/g00076/impl"
)

// texts are what a session is handed.
type texts struct {
	conf    string
	sources []string
	script  string
}

func (s texts) session() string {
	return impl.Session(s.conf, s.sources, s.script)
}

func (s texts) copied() texts {
	s.sources = slices.Clone(s.sources)
	return s
}

// byHand is what the models of all chapters tell, put together by the words of this one.
func (s texts) byHand() string {
	x, code, line := parseByHand(s.conf)
	if code != 0 {
		return fmt.Sprintf("conf %d %d\n", code, line)
	}
	if len(s.sources) != len(x.Parts) {
		return fmt.Sprintf("sources %d\n", len(x.Parts))
	}
	images := [][][]byte{}
	for p, row := range x.Parts {
		words, code, line, _ := assembleByHand(s.sources[p])
		if code != 0 {
			return fmt.Sprintf("source %s %d %d\n", row.Name, code, line)
		}
		image, fits := loadByHand(x, p, words)
		if !fits {
			return fmt.Sprintf("image %s\n", row.Name)
		}
		images = append(images, image)
	}
	cmds, code, line := scriptByHand(x, s.script)
	if code != 0 {
		return fmt.Sprintf("script %d %d\n", code, line)
	}
	told := playByHand(x, images, cmds)
	return "codes" + strings.TrimRight(" "+strings.Trim(fmt.Sprint(told.Codes), "[]"), " ") + "\n" + reportByHand(x, told)
}

// ofParts is what the functions that a session is made of tell, put together by the words of the chapter.
func (s texts) ofParts() string {
	x, code, line := impl.ParseConf(s.conf)
	if code != impl.ConfOk {
		return "conf " + impl.DecText(code) + " " + impl.DecText(line) + "\n"
	}
	if len(s.sources) != len(x.Parts) {
		return "sources " + impl.DecText(len(x.Parts)) + "\n"
	}
	images := [][][]byte{}
	for p := range x.Parts {
		words, code, line := impl.Assemble(s.sources[p])
		if code != impl.AsmOk {
			return "source " + x.Parts[p].Name + " " + impl.DecText(code) + " " + impl.DecText(line) + "\n"
		}
		image, fits := impl.LoadImage(x, p, words)
		if !fits {
			return "image " + x.Parts[p].Name + "\n"
		}
		images = append(images, image)
	}
	cmds, code, line := impl.ParseScript(x, s.script)
	if code != impl.ScriptOk {
		return "script " + impl.DecText(code) + " " + impl.DecText(line) + "\n"
	}
	told, _ := impl.Play(x, images, cmds)
	text := "codes"
	for _, code := range told.Codes {
		text += " " + impl.DecText(code)
	}
	return text + "\n" + impl.Report(x, told)
}

// wantSession holds a session against the models and against its parts.
func wantSession(t *testing.T, what string, s texts) string {
	t.Helper()
	got := s.session()
	if want := s.byHand(); got != want {
		t.Errorf("%s: the session is\n%s\nand by hand\n%s", what, shortText(got), shortText(want))
	}
	if want := s.ofParts(); got != want {
		t.Errorf("%s: the session is\n%s\nand of its parts\n%s", what, shortText(got), shortText(want))
	}
	return got
}

// wantSessionIs has each line of the text.
func wantSessionIs(t *testing.T, what string, s texts, want ...string) {
	t.Helper()
	if got := wantSession(t, what, s); got != textOf(want) {
		t.Errorf("%s: the session is\n%s\nnot\n%s", what, shortText(got), shortText(textOf(want)))
	}
}

// nops are so many words.
func nops(count int) string {
	return strings.Repeat("nop\n", count)
}

// rightSession is of rightTables, whose partitions have room for 14, 32 and 15 words; of its commands Play refuses some.
func rightSession() texts {
	return texts{
		conf:    rightConf,
		sources: []string{"addi r1 r0 7\nsend r2 r1 0\nyield\n", "again:\nrecv r1 r2 0\naddi r3 r3 1\njal r0 again\n", ""},
		script:  "input 0 9\nrun 900\ninput 7 1\nrestart a\nrun 200\nrun 49000\nrun 50000\n",
	}
}

// fault is one way for a session to fail: the line that it ends with, and what makes it so.
type fault struct {
	line   string
	breaks func(s *texts)
}

func confFault(code int, line int, conf string) fault {
	return fault{fmt.Sprintf("conf %d %d", code, line), func(s *texts) { s.conf = conf }}
}

func confFaults() []fault {
	return []fault{
		confFault(impl.ConfLong, 0, rightConf+"x"),
		confFault(impl.ConfKind, 1, "x\n"),
		confFault(impl.ConfKind, 25, withLine(rightConf, 25, "slot net 600")),
		confFault(impl.ConfRange, 1, withLine(rightConf, 1, "mem 1026")),
		confFault(impl.ConfName, 9, withLine(rightConf, 9, "part a 256 restart 3")),
		confFault(impl.ConfMany, 15, behindLine(rightConf, 12, "window a 64 4 r", "window a 68 4 r", "window a 72 4 r")),
		confFault(impl.ConfWindow, 12, withLine(rightConf, 12, "window a 60 32 rw")),
		confFault(impl.ConfPad, 5, withLine(rightConf, 5, "pad 40")),
		confFault(impl.ConfGuard, 6, withLine(rightConf, 6, "guard 40")),
		confFault(impl.ConfSlot, 22, withLine(rightConf, 22, "slot a 10 110")),
		confFault(impl.ConfMissing, 1, ""),
		confFault(impl.ConfMissing, 22, textOf(cutLines(rightConf)[:21])),
	}
}

func countFaults() []fault {
	counted := func(change func(list []string) []string) fault {
		return fault{"sources 3", func(s *texts) { s.sources = change(slices.Clone(s.sources)) }}
	}
	return []fault{
		counted(func(list []string) []string { return nil }),
		counted(func(list []string) []string { return list[:1] }),
		counted(func(list []string) []string { return list[:2] }),
		counted(func(list []string) []string { return append(list, "") }),
		counted(func(list []string) []string { return append(list, "what\n") }),
		counted(func(list []string) []string { return append(list, list...) }),
	}
}

// partFaults are those of a partition of rightTables: sources that do not assemble, and words that do not fit.
func partFaults(p int) []fault {
	name, room := []string{"a", "net", "logwrite"}[p], []int{14, 32, 15}[p]
	sourced := func(line string, source string) fault {
		return fault{line, func(s *texts) { s.sources = slices.Clone(s.sources); s.sources[p] = source }}
	}
	refused := func(code int, line int, source string) fault {
		return sourced(fmt.Sprintf("source %s %d %d", name, code, line), source)
	}
	return []fault{
		refused(impl.AsmLong, 0, "nop"),
		refused(impl.AsmLine, 1, "what\n"),
		refused(impl.AsmLine, room+2, nops(room+1)+"what\n"),
		refused(impl.AsmTwice, 3, "a:\nnop\na:\n"),
		refused(impl.AsmMany, 257, nops(257)),
		refused(impl.AsmNone, 2, "nop\njal r0 nowhere\n"),
		sourced("image "+name, nops(room+1)),
		sourced("image "+name, nops(256)),
	}
}

func scriptFaults() []fault {
	scripted := func(code int, line int, script string) fault {
		return fault{fmt.Sprintf("script %d %d", code, line), func(s *texts) { s.script = script }}
	}
	return []fault{
		scripted(impl.ScriptLong, 0, "run 5"),
		scripted(impl.ScriptLine, 1, "go\n"),
		scripted(impl.ScriptName, 2, "run 5\nrestart nobody\n"),
		scripted(impl.ScriptMany, 301, strings.Repeat("run 0\n", 301)),
	}
}

// faultGroups stand in the order in which they are told; of one group no two can be at once.
func faultGroups() [][]fault {
	return [][]fault{confFaults(), countFaults(), partFaults(0), partFaults(1), partFaults(2), scriptFaults()}
}

func TestSessionByNumbers(t *testing.T) {
	conf := "mem 256\ncache 1 1 4\ntlb 1\ncosts 1 0 0 0 0 0 0\npad 16\nguard 1\nmajor 60\npart a 0 halt\npart b 64 restart 1\nwindow a 0 64 rx\nwindow b 64 64 rwx\ndev b\nslot a 0 30\nslot b 30 30\n"
	sum := func(regs ...uint32) string {
		return impl.HexWord(impl.FoldWords(append(regs, make([]uint32, 16-len(regs))...)))
	}
	s := texts{conf, []string{"addi r1 r0 5\ntrap 1\n", "rdev r1 r2 0\n.word 4294967295\n"}, "input 0 77\nrun 60\ninput 1 5\nrun 60\nrun 49880\nrun 1\n"}
	wantSessionIs(t, "two of which one halts and one is restarted", texts{s.conf, s.sources, "input 0 77\nrun 60\ninput 1 5\nrun 60\nrun 49881\n"},
		"codes 0 0 2 0 1",
		"clock 120",
		"part a 2 2 1 0 halted",
		"16 1 00000000 addi 0 0 "+sum(0, 5),
		"17 1 00000004 trap 6 0 "+sum(0, 5),
		"part b 4 4 2 1 halted",
		"46 1 00000040 rdev 0 0 "+sum(0, 0, 77),
		"47 1 00000044 - 4 0 "+sum(),
		"48 1 00000040 rdev 0 0 "+sum(0, 1, 0),
		"49 1 00000044 - 4 0 "+sum(0, 1, 0),
	)
	if got := wantSession(t, "all cycles", s); !strings.HasPrefix(got, "codes 0 0 2 0 0 1\nclock 50000\npart a 2 2 1 0 halted\n") {
		t.Error(got)
	}
	wantSessionIs(t, "no command", texts{s.conf, s.sources, ""}, "codes", "clock 0", "part a 0 0 0 0 alive", "part b 0 0 0 0 alive")
	wantSessionIs(t, "a device that is full", texts{s.conf, s.sources, strings.Repeat("input 0 1\n", 9)}, "codes 0 0 0 0 0 0 0 0 3", "clock 0", "part a 0 0 0 0 alive", "part b 0 0 0 0 alive")
	wantSessionIs(t, "nothing to run", texts{leastConf, []string{""}, "run 17\n"}, "codes 0", "clock 17", "part a 1 1 0 0 alive", "16 1 00000000 nop 0 0 "+sum())
}

func TestSessionInWhichAllIsRight(t *testing.T) {
	got := wantSession(t, "as it is", rightSession())
	if !strings.HasPrefix(got, "codes 0 0 2 0 0 1 1\nclock 1100\npart a ") {
		t.Error(got)
	}
	// Of a source as long as may be, and of one that is empty.
	for p, room := range []int{14, 32, 15} {
		for _, source := range []string{"", nops(room), "a:\n" + nops(room) + "b:\n", nops(room-1) + "yield\n"} {
			s := rightSession()
			s.sources[p] = source
			if got := wantSession(t, "all that fits", s); !strings.HasPrefix(got, "codes ") {
				t.Error(got)
			}
		}
	}
	// As many commands as there may be.
	s := rightSession()
	s.script = strings.Repeat("run 3\n", 300)
	if got := wantSession(t, "300 commands", s); !strings.HasPrefix(got, "codes "+strings.Repeat("0 ", 299)+"0\nclock 900\n") {
		t.Error(got)
	}
}

// All tables that the other chapters ask of, each with sources that talk, and with one that has as many words as may be.
func TestSessionOfEachTable(t *testing.T) {
	for n, maker := range imageMakers() {
		x := maker()
		s := texts{conf: confByHand(x), script: "run 300\nrun 20\n"}
		for p := range x.Parts {
			s.sources = append(s.sources, nops(min(roomToRun(x, p), 256)))
		}
		if got := wantSession(t, fmt.Sprint("tables ", n), s); !strings.HasPrefix(got, "codes 0 0\nclock 320\n") {
			t.Error(got)
		}
	}
	for entry, want := range map[int]string{0: "codes\n", 1024: "codes\n", 1028: "image a\n", 2044: "image a\n"} {
		s := texts{conf: confByHand(wideTables(entry)), sources: []string{nops(256)}}
		if got := wantSession(t, "MaxWords", s); !strings.HasPrefix(got, want) {
			t.Error(entry, got)
		}
		s.sources[0] = nops(257)
		wantSessionIs(t, "more than MaxWords", s, "source a 4 257")
	}
}

func TestSessionWithEachFault(t *testing.T) {
	for _, group := range faultGroups() {
		for _, f := range group {
			s := rightSession()
			f.breaks(&s)
			wantSessionIs(t, "one fault", s, f.line)
		}
	}
}

// Each pair of faults of two groups: the one of the first group is told.
func TestSessionWithEachPairOfFaults(t *testing.T) {
	groups := faultGroups()
	for first, group := range groups {
		for _, f := range group {
			for _, later := range groups[first+1:] {
				for _, g := range later {
					s := rightSession()
					// The later one first, as what comes may take a source away.
					g.breaks(&s)
					f.breaks(&s)
					if got := s.session(); got != f.line+"\n" {
						t.Errorf("beside %q %q is told, not %q", g.line, got, f.line)
					}
				}
			}
		}
	}
}

// Each set of groups that fail, with a fault drawn of each.
func TestSessionWithManyFaults(t *testing.T) {
	chance := rand.New(rand.NewSource(2208))
	groups := faultGroups()
	for set := 1; set < 64; set++ {
		for range 8 {
			s, want := rightSession(), ""
			for n, group := range slices.Backward(groups) {
				if set&(1<<n) == 0 {
					continue
				}
				f := group[chance.Intn(len(group))]
				f.breaks(&s)
				want = f.line
			}
			wantSessionIs(t, "many faults", s, want)
		}
	}
}

// One partition is done with ahead of the next: an image that does not fit, and a source that does not assemble, at the first and at the last one.
func TestSessionTellsPartitionsInOrder(t *testing.T) {
	for _, row := range []struct {
		sources []string
		want    string
	}{
		{[]string{nops(15), "nop\n", "what\n"}, "image a"},
		{[]string{"what\n", "nop\n", nops(16)}, "source a 2 1"},
		{[]string{nops(15), nops(33), nops(16)}, "image a"},
		{[]string{nops(14), nops(33), "what\n"}, "image net"},
		{[]string{nops(14), "nop", nops(16)}, "source net 1 0"},
		{[]string{nops(14), nops(32), nops(16)}, "image logwrite"},
		{[]string{nops(14), nops(32), nops(15) + "what\n"}, "source logwrite 2 16"},
		{[]string{nops(15), "what\n", "what\n"}, "image a"},
		{[]string{"jal r0 b\n", nops(33), nops(16)}, "source a 5 1"},
	} {
		s := rightSession()
		s.sources = row.sources
		wantSessionIs(t, "in order", s, row.want)
		s.script = "go\n"
		wantSessionIs(t, "in order, ahead of the script", s, row.want)
	}
}

func TestSessionByCountOfSources(t *testing.T) {
	for _, maker := range append(scriptMakers(), partTables) {
		x := maker()
		s := texts{conf: confByHand(x), script: "run 1\n"}
		for _, count := range []int{0, 1, 2, 3, 4, 5, 6, 7, 8, 256, 1 << 16, 1<<16 + 3} {
			for _, source := range []string{"", "yield\n", "what\n"} {
				s.sources = slices.Repeat([]string{source}, count)
				got := wantSession(t, "sources", s)
				if (got == fmt.Sprintf("sources %d\n", len(x.Parts))) != (count != len(x.Parts)) {
					t.Errorf("%d sources for %d: %s", count, len(x.Parts), got)
				}
			}
		}
	}
}

// drawnScript has a line for each drawn command that has a text, and now and then one that Play refuses.
func drawnScript(chance *rand.Rand, x impl.Tables) string {
	text := ""
	for _, c := range drawnCmds(chance, x, 15, 3*x.Major) {
		line, _ := printByHand(x, []impl.Cmd{c})
		text += line
		if chance.Intn(20) == 0 && c.Kind == impl.CmdRun && c.At > 0 {
			text += "run 50000\n"
		}
		if chance.Intn(20) == 0 && len(x.Devs) < 8 {
			text += "input 7 1\n"
		}
	}
	return text
}

// drawnSource is mostly one that assembles and fits, of instructions of all sorts.
func drawnSource(chance *rand.Rand, room int) string {
	text := ""
	for n := range min(room, 256) + chance.Intn(8)/7 {
		row := opRows()[chance.Intn(33)]
		line := lineByHand(row, row.right(chance.Intn(16), chance.Intn(16), chance.Intn(16), chance.Intn(9)-2))
		if chance.Intn(9) == 0 {
			line = labelNo(n) + ":\n" + line
		}
		if chance.Intn(200) == 0 {
			line = oddLine(chance)
		}
		text += line + "\n"
	}
	return text
}

func drawnTexts(chance *rand.Rand) texts {
	x := drawnTables(chance)
	s := texts{conf: confByHand(x), script: drawnScript(chance, x)}
	for p := range x.Parts {
		s.sources = append(s.sources, drawnSource(chance, roomToRun(x, p)))
	}
	if chance.Intn(4) == 0 {
		s.conf = mistyped(chance, s.conf)
	}
	if chance.Intn(9) == 0 {
		s.sources = s.sources[chance.Intn(2):]
	}
	if chance.Intn(4) == 0 && s.script != "" {
		s.script = mistyped(chance, s.script)
	}
	return s
}

// Promise 22 over drawn texts.
func TestSessionsOfDrawnTexts(t *testing.T) {
	chance := rand.New(rand.NewSource(2209))
	firsts, codes, steps := map[string]int{}, map[string]int{}, 0
	for range 700 {
		s := drawnTexts(chance)
		got := wantSession(t, "drawn", s)
		words := strings.Split(cutLines(got)[0], " ")
		firsts[words[0]]++
		if words[0] == "codes" {
			steps += strings.Count(got, "\n")
			for _, code := range words[1:] {
				codes[code]++
			}
		}
		if t.Failed() {
			t.Fatalf("%s\n%q\n%s", s.conf, s.sources, s.script)
		}
	}
	for _, first := range []string{"codes", "conf", "sources", "source", "image", "script"} {
		if firsts[first] < 10 {
			t.Errorf("too few of %s: %v", first, firsts)
		}
	}
	if codes["0"] < 500 || codes["1"] < 10 || codes["2"] < 10 || codes["3"] < 10 || steps < 2000 {
		t.Error("too few codes or lines:", codes, steps)
	}
}

// Promise 26: every text is answered.
func TestSessionOfAnyTexts(t *testing.T) {
	chance := rand.New(rand.NewSource(2210))
	odd := func() string {
		bytes := make([]byte, chance.Intn(30))
		for at := range bytes {
			bytes[at] = byte(chance.Intn(256))
		}
		return []string{"", "\n", "x", " ", string(bytes), string(bytes) + "\n", strings.Repeat("\n", 601), strings.Repeat("x", 20001), strings.Repeat("nop\n", 600)}[chance.Intn(9)]
	}
	for range 600 {
		for place := range 4 {
			s := rightSession()
			switch place {
			case 0:
				s.conf = odd()
			case 1:
				s.sources[chance.Intn(3)] = odd()
			case 2:
				s.script = odd()
			case 3:
				s = texts{odd(), []string{odd(), odd()}, odd()}
			}
			wantSession(t, "any texts", s)
		}
	}
	wantSessionIs(t, "nothing", texts{}, "conf 10 1")
}

// Promise 26: the list of sources is not written into, nor is the room behind it, and that room is not looked at.
func TestSessionWritesIntoNothing(t *testing.T) {
	chance := rand.New(rand.NewSource(2211))
	list := []texts{rightSession(), {}}
	for _, group := range faultGroups() {
		for _, f := range group {
			s := rightSession()
			f.breaks(&s)
			list = append(list, s)
		}
	}
	for range 60 {
		list = append(list, drawnTexts(chance))
	}
	first := []string{}
	for _, s := range list {
		roomy := s
		sources, whole := roomed(s.sources, "behind\n")
		roomy.sources = sources
		before := slices.Clone(whole)
		got := roomy.session()
		if !slices.Equal(whole, before) {
			t.Fatalf("%q became %q", before, whole)
		}
		if got != s.copied().session() {
			t.Fatal("what lies behind the sources was looked at")
		}
		scribbleAll(whole, "over\n")
		first = append(first, got)
	}
	// Nothing is kept from call to call.
	for n, s := range slices.Backward(list) {
		if s.session() != first[n] {
			t.Fatal("another session the second time")
		}
	}
}
