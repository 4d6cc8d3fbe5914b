package tests

import (
	"fmt"
	"math"
	"math/rand"
	"regexp"
	"slices"
	"strconv"
	"strings"
	"testing"

	"loop.example/g00076/impl"
)

// rightConf is the text of rightTables: 7 lines, parts from line 8 on, windows from 11, devices from 17, channels from 20, slots from 22.
const rightConf = `mem 1024
cache 2 2 8
tlb 4
costs 1 2 3 4 5 6 7
pad 60
guard 50
major 1000
part a 8 halt
part net 256 restart 3
part logwrite 516 skip
window a 0 64 rx
window a 128 32 rw
window net 256 128 rwx
window logwrite 448 64 rw
window logwrite 512 64 x
window logwrite 704 4 r
dev net
dev a
dev net
chan sample a net
chan queue logwrite a 3
slot a 10 150
slot net 160 200
slot a 400 111
slot net 600 300
`

// leastConf is the text of leastTables.
const leastConf = `mem 64
cache 1 1 4
tlb 1
costs 1 0 0 0 0 0 0
pad 16
guard 1
major 18
part a 0 halt
window a 0 4 x
slot a 0 18
`

// frameConf is the text of frameTables.
const frameConf = `mem 64
cache 1 1 4
tlb 1
costs 1 0 0 0 0 0 0
pad 1000
guard 420
major 5000
part a 0 halt
window a 0 4 x
slot a 0 5000
`

func confTexts() []string {
	return []string{rightConf, leastConf, frameConf, confByHand(mostTables())}
}

func permsByHand() map[string]int {
	return map[string]int{"r": 1, "w": 2, "rw": 3, "x": 4, "rx": 5, "wx": 6, "rwx": 7}
}

func permTextByHand(perm int) string {
	for text, n := range permsByHand() {
		if n == perm {
			return text
		}
	}
	return ""
}

// confByHand is for tables that need not be sound: who is no partition is called nobody.
func confByHand(x impl.Tables) string {
	name := func(p int) string {
		if !isBetween(p, 0, len(x.Parts)-1) {
			return "nobody"
		}
		return x.Parts[p].Name
	}
	c := x.Costs
	text := fmt.Sprintf("mem %d\ncache %d %d %d\ntlb %d\n", x.Mem, x.Shape.Sets, x.Shape.Ways, x.Shape.Line, x.Tlb)
	text += fmt.Sprintf("costs %d %d %d %d %d %d %d\n", c.Base, c.Mul, c.Mem, c.Miss, c.Walk, c.Trap, c.Line)
	text += fmt.Sprintf("pad %d\nguard %d\nmajor %d\n", x.Pad, x.Guard, x.Major)
	for _, p := range x.Parts {
		policy := map[int]string{0: "halt", 1: fmt.Sprint("restart ", p.Policy.Most), 2: "skip"}[p.Policy.Kind]
		text += fmt.Sprintf("part %s %d %s\n", p.Name, p.Entry, policy)
	}
	for _, p := range x.Parts {
		for _, w := range p.Windows {
			text += fmt.Sprintf("window %s %d %d %s\n", p.Name, w.Base, w.Size, permTextByHand(w.Perm))
		}
	}
	for _, owner := range x.Devs {
		text += fmt.Sprintf("dev %s\n", name(owner))
	}
	for _, r := range x.Chans {
		kind := map[int]string{0: "sample", 1: "queue"}[r.Kind]
		text += fmt.Sprintf("chan %s %s %s", kind, name(r.From), name(r.To))
		if r.Kind == 1 {
			text += fmt.Sprint(" ", r.Depth)
		}
		text += "\n"
	}
	for _, s := range x.Slots {
		text += fmt.Sprintf("slot %s %d %d\n", name(s.Part), s.Start, s.Len)
	}
	return text
}

// confLinePatterns are made once, as every text is held against them.
var confLinePatterns = confPatterns()

// confPatterns are the twelve kinds of lines, in their order.
func confPatterns() []*regexp.Regexp {
	list := []*regexp.Regexp{}
	for _, form := range []string{
		"mem #", "cache # # #", "tlb #", "costs # # # # # # #", "pad #", "guard #", "major #",
		"part @ # (?:halt|skip|restart #)", "window @ # # (?:rwx|rw|rx|wx|r|w|x)", "dev @", "chan (?:sample @ @|queue @ @ #)", "slot @ # #",
	} {
		form = strings.ReplaceAll(form, "#", "(?:0|-?[1-9][0-9]{0,5}|-?1000000)")
		form = strings.ReplaceAll(form, "@", "[^ ]*")
		list = append(list, regexp.MustCompile(`\A`+form+`\z`))
	}
	return list
}

// handReader is a reading by hand: what came so far, and the place of the latest line's kind.
type handReader struct {
	x      impl.Tables
	latest int
}

// wrongThings are the codes of what is wrong at a line, in the order of the document's list.
type wrongThings []int

func (w *wrongThings) when(is bool, code int) {
	if is {
		*w = append(*w, code)
	}
}

func (h *handReader) part(name string) int {
	for p, row := range h.x.Parts {
		if row.Name == name {
			return p
		}
	}
	return -1
}

func (h *handReader) kindOf(line string, at int) int {
	for kind, pattern := range confLinePatterns {
		if pattern.MatchString(line) && (at < 7 && kind == at || at >= 7 && kind >= 7 && kind >= h.latest) {
			return kind
		}
	}
	return -1
}

func (h *handReader) line(line string, at int) wrongThings {
	kind := h.kindOf(line, at)
	if kind < 0 {
		return wrongThings{impl.ConfKind}
	}
	h.latest = kind
	words := strings.Split(line, " ")
	numbers := []int{}
	for _, word := range words[1:] {
		if n, err := strconv.Atoi(word); err == nil {
			numbers = append(numbers, n)
		}
	}
	switch kind {
	case 7:
		return h.partLine(words, numbers)
	case 8:
		return h.windowLine(words, numbers)
	case 9:
		return h.devLine(words)
	case 10:
		return h.chanLine(words, numbers)
	case 11:
		return h.slotLine(words, numbers)
	}
	return h.numberLine(kind, numbers)
}

func (h *handReader) numberLine(kind int, n []int) (w wrongThings) {
	x := &h.x
	switch kind {
	case 0:
		x.Mem = n[0]
		w.when(!isWordCount(x.Mem, 16, 512), impl.ConfRange)
	case 1:
		x.Shape = impl.Shape{Sets: n[0], Ways: n[1], Line: n[2]}
		w.when(!slices.Contains(rightShapes(), x.Shape), impl.ConfRange)
	case 2:
		x.Tlb = n[0]
		w.when(!isBetween(x.Tlb, 1, 8), impl.ConfRange)
	case 3:
		x.Costs = impl.Costs{Base: n[0], Mul: n[1], Mem: n[2], Miss: n[3], Walk: n[4], Trap: n[5], Line: n[6]}
		w.when(!costsOkByHand(x.Costs), impl.ConfRange)
	case 4:
		x.Pad = n[0]
		w.when(!isBetween(x.Pad, 1, 5000), impl.ConfRange)
		w.when(x.Pad < worstPadByHand(x.Costs, x.Shape, nil), impl.ConfPad)
	case 5:
		x.Guard = n[0]
		w.when(!isBetween(x.Guard, 1, 5000), impl.ConfRange)
		w.when(x.Guard < worstStepByHand(x.Costs), impl.ConfGuard)
	case 6:
		x.Major = n[0]
		w.when(!isBetween(x.Major, 1, 5000), impl.ConfRange)
	}
	return w
}

func (h *handReader) partLine(words []string, n []int) (w wrongThings) {
	row := impl.PartRow{Name: words[1], Entry: n[0]}
	row.Policy.Kind = map[string]int{"halt": 0, "restart": 1, "skip": 2}[words[3]]
	if row.Policy.Kind == 1 {
		row.Policy.Most = n[1]
	}
	w.when(len(h.x.Parts) > 5, impl.ConfMany)
	w.when(!nameOkByHand(row.Name) || h.part(row.Name) >= 0, impl.ConfName)
	w.when(row.Entry%4 != 0 || !isBetween(row.Entry, 0, h.x.Mem-1) || !isBetween(row.Policy.Most, 0, 100), impl.ConfRange)
	h.x.Parts = append(h.x.Parts, row)
	return w
}

func (h *handReader) windowLine(words []string, n []int) (w wrongThings) {
	p := h.part(words[1])
	if p < 0 {
		return wrongThings{impl.ConfName}
	}
	window := win(n[0], n[1], permsByHand()[words[4]])
	w.when(len(h.x.Parts[p].Windows) > 3, impl.ConfMany)
	w.when(!windowOkByHand(window), impl.ConfRange)
	w.when(window.Base+window.Size > h.x.Mem, impl.ConfWindow)
	if len(w) > 0 {
		return w
	}
	owners, _, _ := memoryByHand(h.x)
	for addr := window.Base; addr < window.Base+window.Size; addr++ {
		w.when(owners[addr] != -1, impl.ConfWindow)
	}
	h.x.Parts[p].Windows = append(h.x.Parts[p].Windows, window)
	return w
}

func (h *handReader) devLine(words []string) (w wrongThings) {
	owner := h.part(words[1])
	w.when(len(h.x.Devs) > 7, impl.ConfMany)
	w.when(owner < 0, impl.ConfName)
	h.x.Devs = append(h.x.Devs, owner)
	return w
}

func (h *handReader) chanLine(words []string, n []int) (w wrongThings) {
	r := impl.ChanRow{From: h.part(words[2]), To: h.part(words[3])}
	if words[1] == "queue" {
		r.Kind, r.Depth = 1, n[0]
	}
	w.when(len(h.x.Chans) > 7, impl.ConfMany)
	w.when(r.From < 0 || r.To < 0 || words[2] == words[3], impl.ConfName)
	w.when(r.Kind == 1 && !isBetween(r.Depth, 1, 8), impl.ConfRange)
	h.x.Chans = append(h.x.Chans, r)
	w.when(h.x.Pad < worstPadByHand(h.x.Costs, h.x.Shape, h.x.Chans), impl.ConfPad)
	return w
}

func (h *handReader) slotLine(words []string, n []int) (w wrongThings) {
	s, free := impl.Slot{Part: h.part(words[1]), Start: n[0], Len: n[1]}, 0
	for _, ahead := range h.x.Slots {
		free = ahead.Start + ahead.Len
	}
	w.when(len(h.x.Slots) > 15, impl.ConfMany)
	w.when(s.Part < 0, impl.ConfName)
	w.when(s.Start < free || s.Len <= h.x.Pad+h.x.Guard || s.Start+s.Len > h.x.Major, impl.ConfSlot)
	h.x.Slots = append(h.x.Slots, s)
	return w
}

func (h *handReader) lacks(lines int) bool {
	lacking := lines < 7 || len(h.x.Parts) == 0 || len(h.x.Slots) == 0
	owners, perms, _ := memoryByHand(h.x)
	for p, row := range h.x.Parts {
		lacking = lacking || len(row.Windows) == 0 || owners[row.Entry] != p || perms[row.Entry] < 4
	}
	return lacking
}

func parseByHand(text string) (impl.Tables, int, int) {
	pieces := strings.SplitAfter(text, "\n")
	if len(text) > 20000 || len(pieces) > 601 || pieces[len(pieces)-1] != "" {
		return impl.Tables{}, impl.ConfLong, 0
	}
	lines := pieces[:len(pieces)-1]
	h := handReader{}
	for at, line := range lines {
		if wrong := h.line(strings.TrimSuffix(line, "\n"), at); len(wrong) > 0 {
			return impl.Tables{}, wrong[0], at + 1
		}
	}
	if h.lacks(len(lines)) {
		return impl.Tables{}, impl.ConfMissing, len(lines) + 1
	}
	return h.x, impl.ConfOk, 0
}

// sameTables takes an empty list and nil for the same.
func sameTables(a impl.Tables, b impl.Tables) bool {
	return fmt.Sprintf("%+v", a) == fmt.Sprintf("%+v", b)
}

func shortText(text string) string {
	if len(text) > 1500 {
		return text[:1500] + " .."
	}
	return text
}

// wantConf holds a text against the model; what is taken must be sound, and come back from its print. It tells the code.
func wantConf(t *testing.T, text string) int {
	t.Helper()
	x, code, line := impl.ParseConf(text)
	y, wantCode, wantLine := parseByHand(text)
	if code != wantCode || line != wantLine || !sameTables(x, y) {
		t.Errorf("code %d at line %d, not %d at line %d, %+v, not %+v, of\n%s", code, line, wantCode, wantLine, x, y, shortText(text))
		return code
	}
	if code != impl.ConfOk {
		if !sameTables(x, impl.Tables{}) {
			t.Errorf("not the zero value beside code %d: %+v", code, x)
		}
		return code
	}
	wantPrint(t, x, confByHand(x), true)
	again, code, line := impl.ParseConf(confByHand(x))
	if !impl.Sound(x) || !soundByHand(x) || code != impl.ConfOk || line != 0 || !sameTables(x, again) {
		t.Errorf("not sound, or not read back from its print:\n%s", text)
	}
	return impl.ConfOk
}

// wantConfAt asks the model too, so that neither the case nor the model can be wrong alone.
func wantConfAt(t *testing.T, text string, code int, line int) {
	t.Helper()
	_, gotCode, gotLine := impl.ParseConf(text)
	if gotCode != code || gotLine != line {
		t.Errorf("code %d at line %d, not %d at line %d, of\n%s", gotCode, gotLine, code, line, shortText(text))
	}
	wantConf(t, text)
}

func wantPrint(t *testing.T, x impl.Tables, want string, is bool) {
	t.Helper()
	if text, ok := impl.PrintConf(x); text != want || ok != is {
		t.Errorf("PrintConf is %v and\n%s\nnot %v and\n%s", ok, text, is, want)
	}
}

func cutLines(text string) []string {
	return strings.Split(strings.TrimSuffix(text, "\n"), "\n")
}

func textOf(lines []string) string {
	return strings.Join(append(slices.Clone(lines), ""), "\n")
}

// withLine has other lines (or none) in the place of line n.
func withLine(text string, n int, others ...string) string {
	return textOf(slices.Replace(cutLines(text), n-1, n, others...))
}

// behindLine has more lines behind line n.
func behindLine(text string, n int, others ...string) string {
	return textOf(slices.Insert(cutLines(text), n, others...))
}

func wantLineAt(t *testing.T, text string, n int, line string, code int) {
	t.Helper()
	wantConfAt(t, withLine(text, n, line), code, n)
}

// wantLineTaken is for a line that is right: the text may be refused at a later line.
func wantLineTaken(t *testing.T, text string, n int, line string) {
	t.Helper()
	changed := withLine(text, n, line)
	if _, code, at := impl.ParseConf(changed); code != impl.ConfOk && at <= n {
		t.Errorf("%q is refused at line %d by code %d", line, at, code)
	}
	wantConf(t, changed)
}

func TestConfConstants(t *testing.T) {
	got := []int{impl.ConfOk, impl.ConfLong, impl.ConfKind, impl.ConfRange, impl.ConfName, impl.ConfMany, impl.ConfWindow, impl.ConfPad, impl.ConfGuard, impl.ConfSlot, impl.ConfMissing}
	for want, code := range got {
		if code != want {
			t.Error(got)
		}
	}
}

func TestPermTextOfEachNumber(t *testing.T) {
	for want, text := range []string{"", "r", "w", "rw", "x", "rx", "wx", "rwx", "", "", "", "", ""} {
		if got := impl.PermText(want); got != text {
			t.Errorf("PermText(%d) = %q", want, got)
		}
	}
	for _, perm := range append(farInts(1<<32+7, -1<<32+1, 1<<16+4, math.MinInt+3), -8, -7, -5, -4, -3, -2, -1, 15, 16, 23, 255, 256+7) {
		if got := impl.PermText(perm); got != "" {
			t.Errorf("PermText(%d) = %q", perm, got)
		}
	}
}

func TestPermOfTexts(t *testing.T) {
	for text, want := range permsByHand() {
		if got := impl.PermOf(text); got != want {
			t.Errorf("PermOf(%q) = %d", text, got)
		}
		if got := impl.PermText(impl.PermOf(text)); got != text {
			t.Errorf("%q comes back as %q", text, got)
		}
	}
	for _, text := range []string{"", " ", "xw", "wr", "xr", "xwr", "wxr", "xrw", "rxw", "wrx", "rr", "ww", "xx", "rrwx", "rwwx", "rwxx", "rwxr", "R", "W", "X", "Rw", "RWX", " r", "r ", "r w", "r-x", "rw-", "---", "4", "7", "r\n", "\x00", "ŕ", strings.Repeat("rwx", 9000)} {
		if got := impl.PermOf(text); got != 0 {
			t.Errorf("PermOf(%q) = %d", shortText(text), got)
		}
	}
}

func TestPermOfAllShortTexts(t *testing.T) {
	texts := []string{""}
	for range 4 {
		next := []string{}
		for _, text := range texts {
			for _, letter := range []string{"r", "w", "x", "R", "X", " ", "-", "s"} {
				next = append(next, text+letter)
			}
		}
		for _, text := range next {
			if got := impl.PermOf(text); got != permsByHand()[text] {
				t.Errorf("PermOf(%q) = %d", text, got)
			}
		}
		texts = next
	}
}

func TestConfOfTables(t *testing.T) {
	wantPrint(t, rightTables(), rightConf, true)
	wantPrint(t, leastTables(), leastConf, true)
	wantPrint(t, frameTables(), frameConf, true)
	for _, maker := range tableMakers() {
		text, ok := impl.PrintConf(maker())
		if !ok || text != confByHand(maker()) {
			t.Errorf("%v and\n%s", ok, text)
		}
		x, code, line := impl.ParseConf(text)
		if code != impl.ConfOk || line != 0 || !sameTables(x, maker()) {
			t.Errorf("code %d at line %d, %+v", code, line, x)
		}
		wantConfAt(t, text, impl.ConfOk, 0)
	}
}

func TestConfOfFullTables(t *testing.T) {
	lines := cutLines(confByHand(mostTables()))
	if len(lines) != 7+6+24+8+8+16 {
		t.Error(len(lines), "lines")
	}
	for n, want := range map[int]string{1: "mem 2048", 2: "cache 16 4 32", 8: "part uuuuuuuu 76 restart 100", 13: "part zzzzzzzz 1676 restart 100", 14: "window uuuuuuuu 0 80 rwx", 37: "window zzzzzzzz 1840 80 rwx", 38: "dev uuuuuuuu", 46: "chan queue uuuuuuuu vvvvvvvv 8", 69: "slot xxxxxxxx 4680 312"} {
		if lines[n-1] != want {
			t.Errorf("line %d is %q", n, lines[n-1])
		}
	}
}

func TestConfTextThatIsNotLined(t *testing.T) {
	for _, text := range append(confTexts(), "mem 64\n", "\n", "x\n", "mem 64\n\n") {
		wantConfAt(t, text[:len(text)-1]+" ", impl.ConfLong, 0)
		wantConfAt(t, text+"x", impl.ConfLong, 0)
		wantConfAt(t, text+" ", impl.ConfLong, 0)
		wantConfAt(t, text+"slot a 700 200", impl.ConfLong, 0)
		wantConfAt(t, text+"\r", impl.ConfLong, 0)
	}
	for _, text := range []string{"mem 256", "x", " ", "mem 64\nmem 64", strings.TrimSuffix(rightConf, "\n"), "\n\nx"} {
		wantConfAt(t, text, impl.ConfLong, 0)
	}
}

// A text of MaxText bytes is read, and refused at its last line; with one byte more it is not read at all.
func TestConfTextByBytes(t *testing.T) {
	for _, text := range append(confTexts(), "") {
		for _, long := range []string{"slot a ", " ", "x"} {
			full := text + long + strings.Repeat("1", 19999-len(text)-len(long)) + "\n"
			if len(full) != 20000 {
				t.Fatal(len(full), "bytes")
			}
			wantConfAt(t, full, impl.ConfKind, strings.Count(full, "\n"))
			wantConfAt(t, text+"x"+full[len(text):], impl.ConfLong, 0)
		}
	}
	wantConfAt(t, strings.Repeat("x", 19999)+"\n", impl.ConfKind, 1)
	wantConfAt(t, strings.Repeat("x", 20000)+"\n", impl.ConfLong, 0)
	wantConfAt(t, strings.Repeat(" ", 19999)+"\n", impl.ConfKind, 1)
	wantConfAt(t, strings.Repeat("x", 1<<20)+"\n", impl.ConfLong, 0)
	wantConfAt(t, strings.Repeat("x", 1<<16+100)+"\n", impl.ConfLong, 0)
}

func TestConfTextByLines(t *testing.T) {
	for _, text := range confTexts() {
		lines := strings.Count(text, "\n")
		for _, more := range []string{"\n", "x\n", " \n", "slot\n"} {
			wantConfAt(t, text+strings.Repeat(more, 599-lines), impl.ConfKind, lines+1)
			wantConfAt(t, text+strings.Repeat(more, 600-lines), impl.ConfKind, lines+1)
			wantConfAt(t, text+strings.Repeat(more, 601-lines), impl.ConfLong, 0)
			wantConfAt(t, text+strings.Repeat(more, 602-lines), impl.ConfLong, 0)
		}
	}
	wantConfAt(t, strings.Repeat("\n", 600), impl.ConfKind, 1)
	wantConfAt(t, strings.Repeat("\n", 601), impl.ConfLong, 0)
	wantConfAt(t, strings.Repeat("\n", 20000), impl.ConfLong, 0)
	wantConfAt(t, strings.Repeat("\n", 20001), impl.ConfLong, 0)
}

func TestConfWithoutALine(t *testing.T) {
	for n := 1; n <= 7; n++ {
		for _, text := range confTexts() {
			wantConfAt(t, withLine(text, n), impl.ConfKind, n)
			lines := cutLines(text)
			wantConfAt(t, behindLine(text, n, lines[n-1]), impl.ConfKind, n+1)
			wantConfAt(t, withLine(text, n, ""), impl.ConfKind, n)
			wantConfAt(t, behindLine(text, n, ""), impl.ConfKind, n+1)
			for m := 1; m <= len(lines); m++ {
				if m != n {
					wantConfAt(t, withLine(text, n, lines[m-1]), impl.ConfKind, n)
				}
			}
		}
	}
	for _, text := range confTexts() {
		for n := range cutLines(text) {
			wantConf(t, withLine(text, n+1))
			wantConfAt(t, withLine(text, n+1, ""), impl.ConfKind, n+1)
		}
	}
}

func TestConfWithFirstLinesInAnotherOrder(t *testing.T) {
	for a := 1; a <= 7; a++ {
		for b := a + 1; b <= 7; b++ {
			lines := cutLines(rightConf)
			lines[a-1], lines[b-1] = lines[b-1], lines[a-1]
			wantConfAt(t, textOf(lines), impl.ConfKind, a)
		}
	}
	for n := 1; n <= 7; n++ {
		for at := 8; at <= 26; at++ {
			wantConfAt(t, behindLine(rightConf, at-1, cutLines(rightConf)[n-1]), impl.ConfKind, at)
		}
	}
}

// Each line with a word too few, a word too many, and an empty word at each place.
func TestConfByWordsOfALine(t *testing.T) {
	for _, text := range []string{rightConf, frameConf} {
		for n, line := range cutLines(text) {
			words := strings.Split(line, " ")
			for at := range words {
				few := slices.Delete(slices.Clone(words), at, at+1)
				wantLineAt(t, text, n+1, strings.Join(few, " "), impl.ConfKind)
				for _, more := range []string{"", words[at], "0", "x", "a"} {
					many := slices.Insert(slices.Clone(words), at, more)
					wantLineAt(t, text, n+1, strings.Join(many, " "), impl.ConfKind)
				}
			}
			for _, more := range []string{" ", "  ", " 0", " x", " a", " 3 3", "\t", "\r"} {
				if more[0] == ' ' {
					wantLineAt(t, text, n+1, line+more, impl.ConfKind)
				}
				wantConf(t, withLine(text, n+1, line+more))
				wantLineAt(t, text, n+1, more+line, impl.ConfKind)
			}
		}
	}
}

// isFixed is for words of rightConf at these places of a line.
func isFixed(words []string, at int) bool {
	last := words[0] == "part" && at == 3 || words[0] == "chan" && at == 1
	return at == 0 || last
}

func TestConfByFixedWords(t *testing.T) {
	for n, line := range cutLines(rightConf) {
		words := strings.Split(line, " ")
		for at, word := range words {
			if !isFixed(words, at) {
				continue
			}
			for _, other := range []string{"", strings.ToUpper(word), strings.ToUpper(word[:1]) + word[1:], word + "s", word[1:], word[:len(word)-1], "x", "0", word + "\t", "\x00" + word, "é"} {
				changed := slices.Clone(words)
				changed[at] = other
				wantLineAt(t, rightConf, n+1, strings.Join(changed, " "), impl.ConfKind)
			}
		}
	}
	for _, line := range []string{"part a 8 stop", "part a 8 queue", "part a 8 halt 0", "part a 8 halt 3", "part a 8 skip 0", "part a 8 restart", "part a 8 restart x", "part a 8 restart ", "part a 8 restart -0", "part a 8", "part a halt", "part a halt 8", "part 8 a halt"} {
		wantLineAt(t, rightConf, 8, line, impl.ConfKind)
	}
	for _, line := range []string{"chan sample a net 0", "chan sample a net 1", "chan queue a net", "chan queue a net x", "chan queue a net ", "chan halt a net", "chan a net", "chan a net sample", "chan a net 3", "chan queue 3 a net", "chan sample a"} {
		wantLineAt(t, rightConf, 20, line, impl.ConfKind)
	}
}

func noNumbers() []string {
	return []string{"", "-", "+", "+1", "-0", "+0", "00", "01", "-01", "1 ", "0x1", "1e1", "1.0", "1_0", "x", "N", "one", "-x", "--1", "1-", "1000001", "-1000001", "1000010", "10000000", "9223372036854775808", "18446744073709551617", "4294967296", strings.Repeat("9", 400), "\u0661", "１", "1\x00", "\t1"}
}

func TestConfByNumbersThatAreNone(t *testing.T) {
	for _, text := range []string{rightConf, leastConf} {
		for n, line := range cutLines(text) {
			words := strings.Split(line, " ")
			for at, word := range words {
				if _, err := strconv.Atoi(word); err != nil {
					continue
				}
				for _, none := range append(noNumbers(), "0"+word, "+"+word, word+"x", word+".0") {
					changed := slices.Clone(words)
					changed[at] = none
					wantLineAt(t, text, n+1, strings.Join(changed, " "), impl.ConfKind)
				}
				for _, far := range []string{"1000000", "-1000000", "999999", "-999999"} {
					changed := slices.Clone(words)
					changed[at] = far
					_, code, at := impl.ParseConf(withLine(text, n+1, strings.Join(changed, " ")))
					if code == impl.ConfKind || at == 0 {
						t.Errorf("%v: code %d at line %d", changed, code, at)
					}
				}
			}
		}
	}
}

// Each number of each text, a little and far beside what it was.
func TestConfByEachNumber(t *testing.T) {
	for _, text := range []string{rightConf, leastConf, frameConf} {
		for n, line := range cutLines(text) {
			words := strings.Split(line, " ")
			for at, word := range words {
				was, err := strconv.Atoi(word)
				if err != nil {
					continue
				}
				beside := []int{-was, -1000000, 1000000, 4096, 2048, 2044, 5000, 5001, 64, 60, 100, 101}
				for delta := -6; delta <= 6; delta++ {
					beside = append(beside, was+delta)
				}
				for _, number := range beside {
					changed := slices.Clone(words)
					changed[at] = strconv.Itoa(number)
					wantConf(t, withLine(text, n+1, strings.Join(changed, " ")))
				}
			}
		}
	}
}

func wantNumberAt(t *testing.T, text string, n int, form string, number int, right bool) {
	t.Helper()
	line := strings.ReplaceAll(form, "#", strconv.Itoa(number))
	if right {
		wantLineTaken(t, text, n, line)
		return
	}
	wantLineAt(t, text, n, line, impl.ConfRange)
}

func TestConfByMemory(t *testing.T) {
	for mem := -70; mem <= 2200; mem++ {
		if mem > 80 && mem < 2000 && mem%97 != 0 {
			continue
		}
		wantNumberAt(t, leastConf, 1, "mem #", mem, mem >= 64 && mem <= 2048 && mem%4 == 0)
	}
	for _, mem := range []int{-1000000, -2048, 4096, 65536, 1000000} {
		wantNumberAt(t, leastConf, 1, "mem #", mem, false)
	}
}

func TestConfByShape(t *testing.T) {
	for sets := -1; sets <= 33; sets++ {
		wantNumberAt(t, frameConf, 2, "cache # 1 4", sets, slices.Contains([]int{1, 2, 4, 8, 16}, sets))
	}
	for ways := -4; ways <= 9; ways++ {
		wantNumberAt(t, frameConf, 2, "cache 1 # 4", ways, isBetween(ways, 1, 4))
	}
	for line := -4; line <= 65; line++ {
		wantNumberAt(t, frameConf, 2, "cache 1 1 #", line, slices.Contains([]int{4, 8, 16, 32}, line))
	}
	for _, s := range rightShapes() {
		wantConfAt(t, withLine(frameConf, 2, fmt.Sprintf("cache %d %d %d", s.Sets, s.Ways, s.Line)), impl.ConfOk, 0)
	}
}

func TestConfByTableOfPages(t *testing.T) {
	for size := -10; size <= 300; size++ {
		wantNumberAt(t, leastConf, 3, "tlb #", size, isBetween(size, 1, 8))
	}
}

func TestConfByCosts(t *testing.T) {
	forms := []string{"costs # 1 1 1 1 1 1", "costs 1 # 1 1 1 1 1", "costs 1 1 # 1 1 1 1", "costs 1 1 1 # 1 1 1", "costs 1 1 1 1 # 1 1", "costs 1 1 1 1 1 # 1", "costs 1 1 1 1 1 1 #"}
	for at, form := range forms {
		least, most := 0, 50
		if at == 0 {
			least, most = 1, 20
		}
		for n := -3; n <= 53; n++ {
			wantNumberAt(t, frameConf, 4, form, n, isBetween(n, least, most))
		}
		for _, n := range []int{-1000000, 255, 256, 257, 1000000} {
			wantNumberAt(t, frameConf, 4, form, n, false)
		}
	}
	wantConfAt(t, withLine(frameConf, 4, "costs 20 50 50 50 50 50 50"), impl.ConfOk, 0)
	x, _, _ := impl.ParseConf(withLine(frameConf, 4, "costs 1 2 3 4 5 6 7"))
	if x.Costs != apartCosts() {
		t.Error(x.Costs)
	}
}

func apartCosts() impl.Costs {
	return impl.Costs{Base: 1, Mul: 2, Mem: 3, Miss: 4, Walk: 5, Trap: 6, Line: 7}
}

func TestConfByPadGuardAndMajor(t *testing.T) {
	for n, form := range map[int]string{5: "pad #", 6: "guard #", 7: "major #"} {
		for _, number := range []int{-1000000, -5000, -1, 0, 5001, 5002, 65536, 1000000} {
			for _, text := range confTexts() {
				wantNumberAt(t, text, n, form, number, false)
			}
		}
		for _, text := range []string{leastConf, frameConf} {
			wantNumberAt(t, text, n, form, 4999, true)
			wantNumberAt(t, text, n, form, 5000, true)
		}
	}
	wantNumberAt(t, leastConf, 6, "guard #", 1, true)
	for _, text := range confTexts() {
		wantNumberAt(t, text, 7, "major #", 1, true)
		wantNumberAt(t, text, 7, "major #", 2, true)
	}
}

// The pad beside what it must cover without a channel, whatever channels come behind it.
func TestConfByWorstPad(t *testing.T) {
	for pad := 1; pad <= 100; pad++ {
		for text, least := range map[string]int{rightConf: 44, leastConf: 16, frameConf: 16} {
			line := fmt.Sprint("pad ", pad)
			if pad < least {
				wantLineAt(t, text, 5, line, impl.ConfPad)
			} else {
				wantLineTaken(t, text, 5, line)
			}
		}
	}
	wantConfAt(t, withLine(rightConf, 5, "pad 44"), impl.ConfPad, 20)
	wantConfAt(t, withLine(rightConf, 5, "pad 45"), impl.ConfPad, 21)
	wantConfAt(t, withLine(rightConf, 5, "pad 46"), impl.ConfPad, 21)
	wantConfAt(t, withLine(rightConf, 5, "pad 47"), impl.ConfPad, 21)
	wantConfAt(t, withLine(rightConf, 5, "pad 48"), impl.ConfOk, 0)
	for _, s := range rightShapes() {
		for _, line := range []int{0, 1, 50} {
			worst := 16*20 + s.Sets*s.Ways*line
			text := withLine(frameConf, 2, fmt.Sprintf("cache %d %d %d", s.Sets, s.Ways, s.Line))
			text = withLine(text, 4, fmt.Sprint("costs 20 0 0 0 0 0 ", line))
			wantLineAt(t, text, 5, fmt.Sprint("pad ", worst-1), impl.ConfPad)
			wantConfAt(t, withLine(text, 5, fmt.Sprint("pad ", worst)), impl.ConfOk, 0)
		}
	}
}

func TestConfByWorstStep(t *testing.T) {
	for guard := 1; guard <= 50; guard++ {
		line := fmt.Sprint("guard ", guard)
		if guard < 45 {
			wantLineAt(t, rightConf, 6, line, impl.ConfGuard)
		} else {
			wantConfAt(t, withLine(rightConf, 6, line), impl.ConfOk, 0)
		}
	}
	for _, c := range someCosts() {
		text := withLine(frameConf, 4, fmt.Sprintf("costs %d %d %d %d %d %d %d", c.Base, c.Mul, c.Mem, c.Miss, c.Walk, c.Trap, c.Line))
		worst := worstStepByHand(c)
		wantConfAt(t, withLine(text, 6, fmt.Sprint("guard ", worst)), impl.ConfOk, 0)
		if worst > 1 {
			wantLineAt(t, text, 6, fmt.Sprint("guard ", worst-1), impl.ConfGuard)
		}
	}
}

func TestConfByNamesOfPartitions(t *testing.T) {
	for _, name := range []string{"", "abcdefghi", "A", "aB", "a1", "1", "-", "a.b", "é", "aé", "\x00", "\xff", "a\t", "NAME", strings.Repeat("a", 257)} {
		wantLineAt(t, rightConf, 8, "part "+name+" 8 halt", impl.ConfName)
		wantLineAt(t, rightConf, 9, "part "+name+" 256 restart 3", impl.ConfName)
		wantLineAt(t, rightConf, 10, "part "+name+" 516 skip", impl.ConfName)
	}
	for _, name := range []string{"b", "z", "aa", "zzzzzzzz", "part", "halt", "ne", "neta", "mem", "n", "r"} {
		wantLineTaken(t, rightConf, 9, "part "+name+" 256 restart 3")
	}
	wantLineAt(t, rightConf, 9, "part a 256 restart 3", impl.ConfName)
	wantLineAt(t, rightConf, 10, "part a 516 skip", impl.ConfName)
	wantLineAt(t, rightConf, 10, "part net 516 skip", impl.ConfName)
	// Of two names alike the second is wrong, and the one that stands ahead is not held against it.
	wantConfAt(t, withLine(rightConf, 8, "part net 8 halt"), impl.ConfName, 9)
	wantConfAt(t, withLine(rightConf, 8, "part logwrite 8 halt"), impl.ConfName, 10)
}

func TestConfByCountOfPartitions(t *testing.T) {
	text, names := confByHand(partsOf(6)), "abcdefghijkl"
	wantConfAt(t, text, impl.ConfOk, 0)
	for count := 1; count <= 5; count++ {
		wantConfAt(t, confByHand(partsOf(count)), impl.ConfOk, 0)
	}
	for _, line := range []string{"part g 24 halt", "part a 24 halt", "part TOO 24 halt", "part  24 halt", "part g 3 halt", "part g 0 restart 101"} {
		wantConfAt(t, behindLine(text, 13, line), impl.ConfMany, 14)
	}
	wantConfAt(t, behindLine(text, 13, "part g 24 stop"), impl.ConfKind, 14)
	for count := 7; count <= 12; count++ {
		if got := confByHand(partsOf(count)); !strings.Contains(got, "part "+names[count-1:count]+" ") {
			t.Fatal(got)
		}
		wantConfAt(t, confByHand(partsOf(count)), impl.ConfMany, 14)
	}
}

func TestConfByEntry(t *testing.T) {
	for entry := -20; entry <= 1100; entry++ {
		within := entry%4 == 0 && isBetween(entry, 0, 1023)
		wantNumberAt(t, rightConf, 8, "part a # halt", entry, within)
		if isBetween(entry, 80, 990) && entry%13 != 0 {
			continue
		}
		wantNumberAt(t, rightConf, 9, "part net # restart 3", entry, within)
		wantNumberAt(t, rightConf, 10, "part logwrite # skip", entry, within)
	}
	for _, entry := range []int{-1000000, -1024, 1000000, 65536, 2048, 2044} {
		wantNumberAt(t, rightConf, 8, "part a # halt", entry, false)
	}
	for mem := 64; mem <= 2048; mem += 4 * 31 {
		text := withLine(leastConf, 1, fmt.Sprint("mem ", mem))
		wantNumberAt(t, text, 8, "part a # halt", mem-4, true)
		wantNumberAt(t, text, 8, "part a # halt", mem, false)
		wantNumberAt(t, text, 8, "part a # halt", mem-1, false)
		text = withLine(text, 8, fmt.Sprintf("part a %d halt", mem-4))
		wantConfAt(t, text, impl.ConfMissing, 11)
		wantConfAt(t, withLine(text, 9, fmt.Sprintf("window a %d 4 x", mem-4)), impl.ConfOk, 0)
	}
}

func TestConfByPolicy(t *testing.T) {
	for most := -5; most <= 110; most++ {
		wantNumberAt(t, rightConf, 8, "part a 8 restart #", most, isBetween(most, 0, 100))
	}
	for _, most := range []int{-1000000, -101, 255, 256, 1000000} {
		wantNumberAt(t, rightConf, 8, "part a 8 restart #", most, false)
	}
	for _, policy := range rightPolicies() {
		for p := range 3 {
			x := changed(rightTables, func(x *impl.Tables) { x.Parts[p].Policy = policy })
			wantConfAt(t, confByHand(x), impl.ConfOk, 0)
			wantPrint(t, x, confByHand(x), true)
		}
	}
	x, _, _ := impl.ParseConf(withLine(rightConf, 8, "part a 8 restart 0"))
	if len(x.Parts) != 3 || x.Parts[0].Policy != (impl.Policy{Kind: impl.PolicyRestart}) {
		t.Errorf("%+v", x.Parts)
	}
}

func TestConfByOwnersOfWindows(t *testing.T) {
	for _, name := range []string{"", "b", "A", "ne", "nett", "logwrit", "logwrites", "NAME", "a\x00", "é"} {
		for n := 11; n <= 16; n++ {
			words := strings.Split(cutLines(rightConf)[n-1], " ")
			words[1] = name
			wantLineAt(t, rightConf, n, strings.Join(words, " "), impl.ConfName)
		}
	}
	// A partition that is named in a later line is none yet.
	lines := cutLines(rightConf)
	swapped := slices.Concat(lines[:9], lines[10:13], lines[13:14], lines[9:10], lines[14:])
	wantConfAt(t, textOf(swapped), impl.ConfName, 13)
}

func TestConfByCountOfWindows(t *testing.T) {
	text := rightConf
	for n := range 2 {
		text = behindLine(text, 12+n, fmt.Sprintf("window a %d 4 r", 64+4*n))
		wantConfAt(t, text, impl.ConfOk, 0)
	}
	for _, line := range []string{"window a 72 4 r", "window a 0 4 r", "window a 3 4 r", "window a 1024 4 r", "window a 2048 4 r"} {
		wantConfAt(t, behindLine(text, 14, line), impl.ConfMany, 15)
		wantConfAt(t, behindLine(text, 18, line), impl.ConfMany, 19)
	}
	wantConfAt(t, behindLine(text, 14, "window a 72 4 s"), impl.ConfKind, 15)
	wantConfAt(t, behindLine(text, 14, "window b 72 4 r"), impl.ConfName, 15)
	// The windows of the others do not count.
	wantConfAt(t, behindLine(text, 14, "window net 72 4 r", "window net 76 4 r", "window net 80 4 r"), impl.ConfOk, 0)
	wantConfAt(t, behindLine(text, 14, "window net 72 4 r", "window net 76 4 r", "window net 80 4 r", "window net 84 4 r"), impl.ConfMany, 19)
	most := confByHand(mostTables())
	for _, p := range mostTables().Parts {
		wantConfAt(t, behindLine(most, 37, "window "+p.Name+" 2040 4 r"), impl.ConfMany, 38)
	}
}

func TestConfByWindows(t *testing.T) {
	for _, line := range []string{"window a 2 4 x", "window a 1 4 x", "window a -4 4 x", "window a -4 8 x", "window a 0 0 x", "window a 0 2 x", "window a 0 3 x", "window a 0 -4 x", "window a 4 -4 x", "window a 0 2052 x", "window a 2048 4 x", "window a 2044 8 x", "window a 4 2048 x", "window a 1000000 4 x", "window a 0 1000000 x", "window a -1000000 4 x", "window a 1000000 -1000000 x"} {
		wantLineAt(t, leastConf, 9, line, impl.ConfRange)
		wantConfAt(t, behindLine(rightConf, 11, line), impl.ConfRange, 12)
	}
	for _, line := range []string{"window a 0 68 x", "window a 0 2048 x", "window a 64 4 x", "window a 60 8 x", "window a 2044 4 x", "window a 4 2044 x"} {
		wantLineAt(t, leastConf, 9, line, impl.ConfWindow)
	}
	for _, line := range []string{"window a 0 64 x", "window a 0 60 rwx", "window a 0 4 rx", "window a 0 8 wx"} {
		wantConfAt(t, withLine(leastConf, 9, line), impl.ConfOk, 0)
	}
	for _, perm := range []string{"", "xr", "xw", "wr", "xwr", "rxw", "wrx", "rr", "xx", "R", "X", "RWX", "r-x", "rwxx", "4", "7", "PERM", "\x00"} {
		wantLineAt(t, leastConf, 9, "window a 0 4 "+perm, impl.ConfKind)
	}
	for perm, number := range permsByHand() {
		x, code, _ := impl.ParseConf(behindLine(leastConf, 9, "window a 4 4 "+perm))
		if code != impl.ConfOk || len(x.Parts[0].Windows) != 2 || x.Parts[0].Windows[1] != win(4, 4, number) {
			t.Errorf("%s: code %d, %+v", perm, code, x)
		}
	}
}

func TestConfByTheEndOfMemory(t *testing.T) {
	for _, mem := range []int{720, 900, 1024, 2040, 2044, 2048} {
		text := withLine(rightConf, 1, fmt.Sprint("mem ", mem))
		for base := mem - 12; base <= mem+8; base += 4 {
			for size := 4; size <= 16; size += 4 {
				code, line := impl.ConfOk, 0
				if base+size > 2048 {
					code, line = impl.ConfRange, 13
				} else if base+size > mem {
					code, line = impl.ConfWindow, 13
				}
				wantConfAt(t, behindLine(text, 12, fmt.Sprintf("window a %d %d rw", base, size)), code, line)
			}
		}
	}
}

// A window meets what stands ahead, its own partition's and another's; what stands behind it is wrong at its own line.
func TestConfByWindowsThatMeet(t *testing.T) {
	owners, _, _ := memoryByHand(rightTables())
	for base := 0; base < 1024; base += 4 {
		for _, size := range []int{4, 8, 64} {
			if base+size > 1024 || base%36 != 0 && size == 64 {
				continue
			}
			code, line := impl.ConfOk, 0
			for _, owner := range owners[base : base+size] {
				if owner != -1 {
					code, line = impl.ConfWindow, 17
				}
			}
			for _, name := range []string{"a", "net", "logwrite"} {
				wantConfAt(t, behindLine(rightConf, 16, fmt.Sprintf("window %s %d %d r", name, base, size)), code, line)
			}
		}
	}
	wantConfAt(t, behindLine(rightConf, 10, "window net 0 4 r"), impl.ConfWindow, 12)
	wantConfAt(t, behindLine(rightConf, 10, "window a 704 4 r"), impl.ConfWindow, 17)
	wantConfAt(t, behindLine(rightConf, 10, "window a 100 600 r"), impl.ConfWindow, 13)
	wantConfAt(t, behindLine(rightConf, 10, "window a 64 64 r", "window net 160 96 r"), impl.ConfOk, 0)
}

func TestConfOfWindowsInTurns(t *testing.T) {
	lines := cutLines(rightConf)
	turns := slices.Concat(lines[:10], []string{lines[15], lines[12], lines[11], lines[13], lines[10], lines[14]}, lines[16:])
	want := rightTables()
	a, logs := want.Parts[0].Windows, want.Parts[2].Windows
	want.Parts[0].Windows = []impl.Window{a[1], a[0]}
	want.Parts[2].Windows = []impl.Window{logs[2], logs[0], logs[1]}
	x, code, line := impl.ParseConf(textOf(turns))
	if code != impl.ConfOk || line != 0 || !sameTables(x, want) {
		t.Errorf("code %d at line %d, %+v", code, line, x)
	}
	wantPrint(t, x, textOf(slices.Concat(lines[:10], []string{lines[11], lines[10], lines[12], lines[15], lines[13], lines[14]}, lines[16:])), true)
	chance := rand.New(rand.NewSource(36))
	for range 100 {
		windows := slices.Clone(lines[10:16])
		chance.Shuffle(6, func(a int, b int) { windows[a], windows[b] = windows[b], windows[a] })
		wantConfAt(t, textOf(slices.Concat(lines[:10], windows, lines[16:])), impl.ConfOk, 0)
	}
}

func TestConfByDevices(t *testing.T) {
	lines := cutLines(rightConf)
	for count := range 20 {
		for _, name := range []string{"a", "net", "logwrite"} {
			text := textOf(slices.Concat(lines[:16], slices.Repeat([]string{"dev " + name}, count), lines[19:]))
			if count <= 8 {
				wantConfAt(t, text, impl.ConfOk, 0)
			} else {
				wantConfAt(t, text, impl.ConfMany, 25)
			}
		}
	}
	for _, name := range []string{"", "b", "A", "nett", "ne", "NAME", "0", "é"} {
		for n := 17; n <= 19; n++ {
			wantLineAt(t, rightConf, n, "dev "+name, impl.ConfName)
		}
		full := textOf(slices.Concat(lines[:16], slices.Repeat([]string{"dev a"}, 8), []string{"dev " + name}, lines[19:]))
		wantConfAt(t, full, impl.ConfMany, 25)
	}
}

func TestConfByEndsOfChannels(t *testing.T) {
	names := []string{"a", "net", "logwrite", "b", "", "A", "nett", "NAME"}
	for from, fromName := range names {
		for to, toName := range names {
			for _, line := range []string{"chan sample " + fromName + " " + toName, "chan queue " + fromName + " " + toName + " 3"} {
				if from < 3 && to < 3 && from != to {
					wantConfAt(t, withLine(rightConf, 20, line), impl.ConfOk, 0)
				} else {
					wantLineAt(t, rightConf, 20, line, impl.ConfName)
					wantLineAt(t, rightConf, 21, line, impl.ConfName)
				}
			}
		}
	}
}

func TestConfByDepth(t *testing.T) {
	for depth := -3; depth <= 12; depth++ {
		wantNumberAt(t, rightConf, 21, "chan queue logwrite a #", depth, isBetween(depth, 1, 8))
		wantNumberAt(t, rightConf, 20, "chan queue a net #", depth, isBetween(depth, 1, 8))
	}
	for _, depth := range []int{-1000000, 255, 256, 257, 1000000} {
		wantNumberAt(t, rightConf, 21, "chan queue logwrite a #", depth, false)
	}
}

func TestConfByCountOfChannels(t *testing.T) {
	lines := cutLines(rightConf)
	for count := range 12 {
		for _, line := range []string{"chan sample a net", "chan queue net logwrite 1", "chan queue net logwrite 2"} {
			text := textOf(slices.Concat(lines[:19], slices.Repeat([]string{line}, count), lines[21:]))
			if count <= 8 {
				wantConfAt(t, text, impl.ConfOk, 0)
			} else {
				wantConfAt(t, text, impl.ConfMany, 28)
			}
		}
	}
	for _, line := range []string{"chan sample a a", "chan sample a b", "chan queue a net 0", "chan queue a net 8", "chan queue a a 9"} {
		text := textOf(slices.Concat(lines[:19], slices.Repeat([]string{"chan queue a net 2"}, 8), []string{line}, lines[21:]))
		wantConfAt(t, text, impl.ConfMany, 28)
	}
}

// The pad beside what it must cover with the channels up to each line.
func TestConfByPadAndChannels(t *testing.T) {
	lines := cutLines(rightConf)
	chans, words := []string{"chan queue a net 3", "chan sample net a", "chan queue logwrite net 8", "chan queue a logwrite 1", "chan sample a net"}, []int{3, 1, 8, 1, 1}
	for _, base := range []int{1, 2, 3} {
		for pad := 16*base + 28; pad <= 16*base+28+16*base; pad++ {
			head := slices.Clone(lines)
			head[3], head[4], head[5], head[6] = fmt.Sprintf("costs %d 2 3 4 5 6 7", base), fmt.Sprint("pad ", pad), "guard 60", "major 5000"
			slots := []string{"slot a 0 300", "slot net 300 300"}
			code, line, worst := impl.ConfOk, 0, 16*base+28
			for at, count := range words {
				worst += base * count
				if pad < worst && code == impl.ConfOk {
					code, line = impl.ConfPad, 20+at
				}
			}
			wantConfAt(t, textOf(slices.Concat(head[:19], chans, slots)), code, line)
		}
	}
}

func TestConfByHoldersOfSlots(t *testing.T) {
	for _, name := range []string{"", "b", "A", "nett", "ne", "NAME", "0", "é"} {
		for n := 22; n <= 25; n++ {
			words := strings.Split(cutLines(rightConf)[n-1], " ")
			words[1] = name
			wantLineAt(t, rightConf, n, strings.Join(words, " "), impl.ConfName)
		}
	}
	for _, name := range []string{"a", "net", "logwrite"} {
		wantConfAt(t, withLine(rightConf, 22, "slot "+name+" 10 150"), impl.ConfOk, 0)
	}
}

func TestConfByCountOfSlots(t *testing.T) {
	for count := 1; count <= 40; count++ {
		text := confByHand(slotsOf(count))
		if count <= 16 {
			wantConfAt(t, text, impl.ConfOk, 0)
		} else {
			wantConfAt(t, text, impl.ConfMany, 26)
		}
	}
	for _, line := range []string{"slot b 320 20", "slot a 0 20", "slot a 320 1", "slot a 320 5000", "slot a -1 20"} {
		wantConfAt(t, behindLine(confByHand(slotsOf(16)), 25, line), impl.ConfMany, 26)
	}
	wantConfAt(t, behindLine(confByHand(slotsOf(16)), 25, "slot a 320 x"), impl.ConfKind, 26)
}

func wantSlotAt(t *testing.T, n int, line string, right bool) {
	t.Helper()
	if right {
		wantLineTaken(t, rightConf, n, line)
	} else {
		wantLineAt(t, rightConf, n, line, impl.ConfSlot)
	}
}

// A slot is held against the one ahead and the frame; the one behind it is wrong at its own line.
func TestConfByTheStartOfASlot(t *testing.T) {
	for start := -200; start <= 1010; start++ {
		for n, free := range map[int]int{22: 0, 23: 160, 24: 360, 25: 511} {
			if !isBetween(start, free-9, free+9) && !isBetween(start, 780, 890) && start%53 != 0 {
				continue
			}
			wantSlotAt(t, n, fmt.Sprintf("slot a %d 120", start), start >= free && start <= 880)
		}
	}
	for _, start := range []int{-1000000, -5000, 5000, 1000000} {
		wantSlotAt(t, 22, fmt.Sprintf("slot a %d 120", start), false)
		wantSlotAt(t, 25, fmt.Sprintf("slot a %d 120", start), false)
	}
	wantConfAt(t, withLine(rightConf, 22, "slot a 0 160"), impl.ConfOk, 0)
	wantConfAt(t, withLine(rightConf, 22, "slot a 0 161"), impl.ConfSlot, 23)
	wantConfAt(t, withLine(rightConf, 22, "slot a -1 160"), impl.ConfSlot, 22)
	wantConfAt(t, withLine(rightConf, 23, "slot net 160 240"), impl.ConfOk, 0)
	wantConfAt(t, withLine(rightConf, 23, "slot net 160 241"), impl.ConfSlot, 24)
	wantConfAt(t, withLine(rightConf, 23, "slot net 159 200"), impl.ConfSlot, 23)
}

func TestConfByTheLengthOfASlot(t *testing.T) {
	for length := -120; length <= 420; length++ {
		wantSlotAt(t, 22, fmt.Sprintf("slot a 10 %d", length), length > 110)
		wantSlotAt(t, 25, fmt.Sprintf("slot net 600 %d", length), length > 110 && length <= 400)
	}
	for _, length := range []int{-1000000, -5000, 5000, 1000000} {
		wantSlotAt(t, 22, fmt.Sprintf("slot a 10 %d", length), false)
	}
	for lost, text := range map[int]string{17: leastConf, 1420: frameConf} {
		wantLineAt(t, text, 10, fmt.Sprint("slot a 0 ", lost), impl.ConfSlot)
		wantConfAt(t, withLine(text, 10, fmt.Sprint("slot a 0 ", lost+1)), impl.ConfOk, 0)
	}
	wantLineAt(t, frameConf, 10, "slot a 0 5001", impl.ConfSlot)
	wantLineAt(t, frameConf, 10, "slot a 1 5000", impl.ConfSlot)
	wantConfAt(t, withLine(frameConf, 10, "slot a 1 4999"), impl.ConfOk, 0)
	wantConfAt(t, withLine(leastConf, 7, "major 17"), impl.ConfSlot, 10)
	wantConfAt(t, withLine(leastConf, 7, "major 19"), impl.ConfOk, 0)
	wantConfAt(t, withLine(leastConf, 5, "pad 17"), impl.ConfSlot, 10)
	wantConfAt(t, withLine(leastConf, 6, "guard 2"), impl.ConfSlot, 10)
}

// A line behind one of a later kind is wrong by its kind, whatever else is wrong with it.
func TestConfByTheOrderOfKinds(t *testing.T) {
	ends := map[string]int{"part": 10, "window": 16, "dev": 19, "chan": 21, "slot": 25}
	more := map[string][]string{
		"part":   {"part b 0 halt", "part a 0 halt", "part b 3 halt", "part A 0 restart 101"},
		"window": {"window a 64 4 r", "window b 64 4 r", "window a 0 4 r", "window a 1 4 r"},
		"dev":    {"dev a", "dev b"},
		"chan":   {"chan sample a net", "chan queue a a 9", "chan queue net logwrite 8"},
	}
	for kind, lines := range more {
		for _, line := range lines {
			for n := 7; n <= 25; n++ {
				text := behindLine(rightConf, n, line)
				if n > ends[kind] {
					wantConfAt(t, text, impl.ConfKind, n+1)
				} else {
					wantConf(t, text)
				}
			}
		}
	}
	wantConfAt(t, behindLine(rightConf, 10, "part b 960 halt", "window b 960 4 x"), impl.ConfOk, 0)
	wantConfAt(t, behindLine(rightConf, 7, "slot a 10 150"), impl.ConfName, 8)
	wantConfAt(t, behindLine(rightConf, 7, "dev a"), impl.ConfName, 8)
	wantConfAt(t, behindLine(rightConf, 7, "window a 0 4 x"), impl.ConfName, 8)
	wantConfAt(t, behindLine(rightConf, 7, "chan sample a net"), impl.ConfName, 8)
	wantConfAt(t, behindLine(rightConf, 9, "window a 0 4 x"), impl.ConfKind, 11)
	wantConfAt(t, behindLine(rightConf, 10, "slot a 10 150"), impl.ConfKind, 12)
}

// A kind may be left out where none is asked for.
func TestConfWithoutDevicesOrChannels(t *testing.T) {
	lines := cutLines(rightConf)
	noDevs := slices.Concat(lines[:16], lines[19:])
	noChans := slices.Concat(lines[:19], lines[21:])
	neither := slices.Concat(lines[:16], lines[21:])
	for _, text := range []string{textOf(noDevs), textOf(noChans), textOf(neither)} {
		wantConfAt(t, text, impl.ConfOk, 0)
	}
	x := rightTables()
	x.Devs = nil
	wantPrint(t, x, textOf(noDevs), true)
	x.Chans = []impl.ChanRow{}
	wantPrint(t, x, textOf(neither), true)
	x.Devs = rightTables().Devs
	wantPrint(t, x, textOf(noChans), true)
}

// Of two wrong things on one line the one that the document's list names first.
func TestConfByTwoWrongThingsOnALine(t *testing.T) {
	for _, one := range []struct {
		text string
		line int
		with string
		code int
	}{
		{rightConf, 1, "mem 63 x", impl.ConfKind},
		{rightConf, 1, "memory 63", impl.ConfKind},
		{rightConf, 2, "cache 3 3 x", impl.ConfKind},
		{rightConf, 4, "costs 0 51 0 0 0 0", impl.ConfKind},
		{rightConf, 5, "pad 0", impl.ConfRange},
		{rightConf, 5, "pad -1", impl.ConfRange},
		{rightConf, 5, "pad 01", impl.ConfKind},
		{rightConf, 6, "guard 0", impl.ConfRange},
		{rightConf, 6, "guard -44", impl.ConfRange},
		{rightConf, 6, "guard 0 0", impl.ConfKind},
		{rightConf, 8, "part A 3 stop", impl.ConfKind},
		{rightConf, 8, "part A 8 restart 01", impl.ConfKind},
		{rightConf, 8, "part A 3 halt", impl.ConfName},
		{rightConf, 8, "part A 8 restart 101", impl.ConfName},
		{rightConf, 9, "part a -4 restart 101", impl.ConfName},
		{rightConf, 9, "part b -4 restart 101", impl.ConfRange},
		{rightConf, 11, "window b 3 x rx", impl.ConfKind},
		{rightConf, 11, "window b 3 3 xr", impl.ConfKind},
		{rightConf, 11, "window b 3 3 rx", impl.ConfName},
		{rightConf, 11, "window b 0 1028 rx", impl.ConfName},
		{rightConf, 12, "window b 0 64 rx", impl.ConfName},
		{rightConf, 12, "window a 2 2000 rx", impl.ConfRange},
		{rightConf, 12, "window a 0 3 rx", impl.ConfRange},
		{rightConf, 12, "window a 0 2052 rx", impl.ConfRange},
		{rightConf, 12, "window a 0 2048 rx", impl.ConfWindow},
		{rightConf, 17, "dev b b", impl.ConfKind},
		{rightConf, 20, "chan sample a a 3", impl.ConfKind},
		{rightConf, 20, "chan queue b b x", impl.ConfKind},
		{rightConf, 20, "chan queue a a 9", impl.ConfName},
		{rightConf, 20, "chan queue a b 0", impl.ConfName},
		{rightConf, 20, "chan queue b a 0", impl.ConfName},
		{withLine(rightConf, 5, "pad 44"), 20, "chan sample a a", impl.ConfName},
		{withLine(rightConf, 5, "pad 44"), 20, "chan queue a net 9", impl.ConfRange},
		{withLine(rightConf, 5, "pad 44"), 20, "chan queue a net 0", impl.ConfRange},
		{withLine(rightConf, 5, "pad 44"), 20, "chan queue a net 8", impl.ConfPad},
		{rightConf, 22, "slot b -1 x", impl.ConfKind},
		{rightConf, 22, "slot b -1 1", impl.ConfName},
		{rightConf, 25, "slot b 0 1000", impl.ConfName},
		{rightConf, 25, "slot a 0 1001", impl.ConfSlot},
	} {
		wantLineAt(t, one.text, one.line, one.with, one.code)
	}
}

// Of two wrong lines the lesser one, whichever code it has.
func TestConfByTwoWrongLines(t *testing.T) {
	type wrongLine struct {
		line int
		with string
		code int
	}
	list := []wrongLine{
		{1, "mem 62", impl.ConfRange}, {1, "mem x", impl.ConfKind}, {2, "cache 3 2 8", impl.ConfRange}, {3, "tlb 0", impl.ConfRange}, {3, "tlb", impl.ConfKind},
		{4, "costs 21 2 3 4 5 6 7", impl.ConfRange}, {5, "pad 43", impl.ConfPad}, {5, "pad 0", impl.ConfRange}, {6, "guard 44", impl.ConfGuard}, {7, "major 0", impl.ConfRange}, {7, "", impl.ConfKind},
		{8, "part A 8 halt", impl.ConfName}, {8, "part a 1024 halt", impl.ConfRange}, {9, "part a 256 skip", impl.ConfName}, {10, "part logwrite 516 wait", impl.ConfKind},
		{11, "window b 0 64 rx", impl.ConfName}, {12, "window a 127 32 rw", impl.ConfRange}, {13, "window net 60 128 rwx", impl.ConfWindow}, {14, "window logwrite 1020 8 rw", impl.ConfWindow}, {16, "window logwrite 704 4 xr", impl.ConfKind},
		{17, "dev b", impl.ConfName}, {19, "part d 0 halt", impl.ConfKind}, {20, "chan sample net net", impl.ConfName}, {21, "chan queue logwrite a 9", impl.ConfRange},
		{22, "slot a -1 150", impl.ConfSlot}, {23, "slot b 160 200", impl.ConfName}, {24, "slot a 400 110", impl.ConfSlot}, {25, "slot net 600 401", impl.ConfSlot}, {25, "dev net", impl.ConfKind},
	}
	for _, one := range list {
		wantLineAt(t, rightConf, one.line, one.with, one.code)
		for _, other := range list {
			if one.line < other.line {
				wantLineAt(t, withLine(rightConf, other.line, other.with), one.line, one.with, one.code)
			}
		}
	}
}

func TestConfOfPrefixes(t *testing.T) {
	lines := cutLines(rightConf)
	for count := range lines {
		text := textOf(lines[:count])
		if count < 22 {
			wantConfAt(t, text, impl.ConfMissing, count+1)
		} else {
			wantConfAt(t, text, impl.ConfOk, 0)
		}
	}
	wantConfAt(t, "", impl.ConfMissing, 1)
	wantConfAt(t, "\n", impl.ConfKind, 1)
	wantConfAt(t, "mem 64\n", impl.ConfMissing, 2)
	wantConfAt(t, "mem 63\n", impl.ConfRange, 1)
}

func TestConfByWhatIsMissing(t *testing.T) {
	lines := cutLines(rightConf)
	wantConfAt(t, textOf(lines[:7]), impl.ConfMissing, 8)
	wantConfAt(t, textOf(lines[:10]), impl.ConfMissing, 11)
	wantConfAt(t, textOf(lines[:21]), impl.ConfMissing, 22)
	wantConfAt(t, textOf(slices.Concat(lines[:12], lines[13:])), impl.ConfMissing, 25)
	wantConfAt(t, behindLine(rightConf, 10, "part b 0 halt"), impl.ConfMissing, 27)
	wantConfAt(t, behindLine(rightConf, 7, "part b 960 halt"), impl.ConfMissing, 27)
	wantConfAt(t, textOf(slices.Concat(lines[:10], lines[16:])), impl.ConfMissing, 20)
	for _, entry := range []int{64, 124, 128, 156, 160, 256, 512, 1020} {
		wantConfAt(t, withLine(rightConf, 8, fmt.Sprintf("part a %d halt", entry)), impl.ConfMissing, 26)
	}
	for _, entry := range []int{448, 508, 576, 704, 0, 256} {
		wantConfAt(t, withLine(rightConf, 10, fmt.Sprintf("part logwrite %d skip", entry)), impl.ConfMissing, 26)
	}
	for _, entry := range []int{0, 4, 60} {
		wantConfAt(t, withLine(rightConf, 8, fmt.Sprintf("part a %d halt", entry)), impl.ConfOk, 0)
	}
	for _, perm := range []string{"r", "w", "rw"} {
		wantConfAt(t, withLine(leastConf, 9, "window a 0 4 "+perm), impl.ConfMissing, 11)
	}
	for _, perm := range []string{"x", "rx", "wx", "rwx"} {
		wantConfAt(t, withLine(leastConf, 9, "window a 0 4 "+perm), impl.ConfOk, 0)
	}
	// What is missing is told behind every wrong line.
	wantConfAt(t, withLine(withLine(rightConf, 8, "part a 64 halt"), 25, "slot net 600 401"), impl.ConfSlot, 25)
	wantConfAt(t, textOf(slices.Concat(lines[:20], []string{"chan sample a a"})), impl.ConfName, 21)
}

// A partition without a slot, and devices and channels of it, are right.
func TestConfOfAPartitionWithoutASlot(t *testing.T) {
	text := withLine(withLine(rightConf, 25), 23)
	wantConfAt(t, text, impl.ConfOk, 0)
	if x, _, _ := impl.ParseConf(text); len(x.Slots) != 2 || x.Slots[0].Part != 0 || x.Slots[1].Part != 0 {
		t.Errorf("%+v", x.Slots)
	}
}

// Promise 14 over drawn tables: they are printed and read back the same.
func TestConfOfDrawnTables(t *testing.T) {
	chance := rand.New(rand.NewSource(37))
	for range 1500 {
		x := drawnTables(chance)
		wantPrint(t, x, confByHand(x), true)
		text, _ := impl.PrintConf(x)
		back, code, line := impl.ParseConf(text)
		if code != impl.ConfOk || line != 0 || !sameTables(x, back) {
			t.Fatalf("code %d at line %d, %+v, not %+v", code, line, back, x)
		}
		wantConf(t, text)
		disturb(chance, &x)
		if soundByHand(x) {
			wantPrint(t, x, confByHand(x), true)
		} else {
			wantPrint(t, x, "", false)
		}
		wantConf(t, confByHand(x))
	}
}

func TestPrintOfTablesThatAreNotSound(t *testing.T) {
	for what, x := range wrongTables() {
		if text, ok := impl.PrintConf(x); text != "" || ok {
			t.Errorf("%s: %v and\n%s", what, ok, text)
		}
	}
	for _, maker := range tableMakers() {
		x := maker()
		for _, number := range numbersIn(&x) {
			was := *number
			for _, n := range append(oddInts(), was-4, was-1, was+1, was+4, was+1<<32) {
				*number = n
				if soundByHand(x) {
					wantPrint(t, x, confByHand(x), true)
				} else {
					wantPrint(t, x, "", false)
				}
			}
			*number = was
		}
	}
}

// mistyped changes one thing of a text: a line, a word, a number or a byte.
func mistyped(chance *rand.Rand, text string) string {
	lines := cutLines(text)
	at, other := chance.Intn(len(lines)), chance.Intn(len(lines))
	words := strings.Split(lines[at], " ")
	place := chance.Intn(len(words))
	switch chance.Intn(9) {
	case 0:
		return textOf(slices.Delete(lines, at, at+1))
	case 1:
		return textOf(slices.Insert(lines, at, lines[other]))
	case 2:
		lines[at], lines[other] = lines[other], lines[at]
		return textOf(lines)
	case 3:
		bytes := []byte(text)
		bytes[chance.Intn(len(bytes))] = "0123456789 abrwx\n-"[chance.Intn(18)]
		return string(bytes)
	case 4:
		from := strings.Split(lines[other], " ")
		words[place] = from[chance.Intn(len(from))]
	case 5:
		words[place] = []string{"", "a", "b", "r", "rx", "xr", "0", "-1", "halt", "skip", "queue", "sample", "1000000"}[chance.Intn(13)]
	default:
		for place, word := range words {
			if n, err := strconv.Atoi(word); err == nil && chance.Intn(2) == 0 {
				words[place] = strconv.Itoa(n + []int{-60, -8, -4, -1, 1, 4, 8, 60}[chance.Intn(8)])
			}
		}
	}
	lines[at] = strings.Join(words, " ")
	return textOf(lines)
}

// Promise 14 over texts with one and more mistakes: refused at the least wrong line, or sound.
func TestConfOfMistypedTexts(t *testing.T) {
	chance := rand.New(rand.NewSource(38))
	codes := map[int]int{}
	for range 6000 {
		text := confByHand(drawnTables(chance))
		for range 1 + chance.Intn(3) {
			text = mistyped(chance, text)
			codes[wantConf(t, text)]++
		}
		if t.Failed() {
			return
		}
	}
	for code := impl.ConfOk; code <= impl.ConfMissing; code++ {
		if least := 20; codes[code] < least && code != impl.ConfLong && code != impl.ConfMany {
			t.Errorf("too few of code %d: %v", code, codes)
		}
	}
}

// Promise 26: every text is answered.
func TestConfOfAnyTexts(t *testing.T) {
	chance := rand.New(rand.NewSource(39))
	pieces := []string{"mem", "cache", "tlb", "costs", "pad", "guard", "major", "part", "window", "dev", "chan", "slot", "a", "b", "0", "1", "4", "64", "-1", " ", " ", " ", "\n", "\n", "rwx", "halt", "restart", "queue", "\x00", "\xff", "é"}
	for range 3000 {
		text := strings.Join(cutLines(rightConf)[:chance.Intn(26)], "\n") + "\n"
		if chance.Intn(3) == 0 {
			text = ""
		}
		for range chance.Intn(40) {
			text += pieces[chance.Intn(len(pieces))]
		}
		wantConf(t, text)
		bytes := make([]byte, chance.Intn(60))
		for at := range bytes {
			bytes[at] = byte(chance.Intn(256))
		}
		wantConf(t, string(bytes))
		wantConf(t, string(bytes)+"\n")
		wantConf(t, rightConf+string(bytes)+"\n")
	}
}

// Promise 26: no list that is printed, nor one within a list, is written into, nor is the room behind it.
func TestPrintedTablesStayAsTheyWere(t *testing.T) {
	for _, x := range tablesOfAllSorts(40) {
		given, told := roomyTables(x)
		before := told()
		text, ok := impl.PrintConf(given)
		if after := told(); after != before {
			t.Fatalf("%s\nbecame\n%s", before, after)
		}
		if alone, is := impl.PrintConf(x); alone != text || is != ok {
			t.Fatalf("what lies behind a list was looked at: %+v", x)
		}
	}
}

// scribbleAll writes over a list up to its capacity.
func scribbleAll[T any](list []T, filler T) {
	list = list[:cap(list)]
	for at := range list {
		list[at] = filler
	}
}

// listsOf has for each list of the tables a function that writes over it, and one that takes it out of the tables.
func listsOf(x *impl.Tables) (scribbles []func(), empties []func(y *impl.Tables)) {
	scribbles = append(scribbles, func() { scribbleAll(x.Devs, 7) }, func() { scribbleAll(x.Chans, impl.ChanRow{Kind: 7}) }, func() { scribbleAll(x.Slots, impl.Slot{Part: 7}) })
	empties = append(empties, func(y *impl.Tables) { y.Devs = nil }, func(y *impl.Tables) { y.Chans = nil }, func(y *impl.Tables) { y.Slots = nil })
	for p := range x.Parts {
		scribbles = append(scribbles, func() { scribbleAll(x.Parts[p].Windows, win(7, 7, 7)) })
		empties = append(empties, func(y *impl.Tables) { y.Parts[p].Windows = nil })
	}
	scribbles = append(scribbles, func() { scribbleAll(x.Parts, impl.PartRow{Name: "over"}) })
	empties = append(empties, func(y *impl.Tables) { y.Parts = nil })
	return scribbles, empties
}

// Every list of an answer is its own: what is written into it is seen in no other list and in no other answer.
func TestListsOfAReadConfAreItsOwn(t *testing.T) {
	lines := cutLines(rightConf)
	turns := textOf(slices.Concat(lines[:10], []string{lines[15], lines[12], lines[11], lines[13], lines[10], lines[14]}, lines[16:]))
	for _, text := range append(confTexts(), turns) {
		first, _, _ := impl.ParseConf(text)
		scribbles, empties := listsOf(&first)
		for at := range scribbles {
			x, _, _ := impl.ParseConf(text)
			other, _, _ := impl.ParseConf(text)
			want := copyTables(x)
			scribbles, _ := listsOf(&x)
			scribbles[at]()
			if !sameTables(other, want) {
				t.Errorf("list %d is shared by two answers", at)
			}
			got := copyTables(x)
			empties[at](&got)
			empties[at](&want)
			if !sameTables(got, want) {
				t.Errorf("list %d is shared with another:\n%+v\n%+v", at, got, want)
			}
		}
		if again, code, _ := impl.ParseConf(text); code != impl.ConfOk || !sameTables(again, first) {
			t.Error("the text is read in another way the next time")
		}
	}
}
