package tests

import (
	"fmt"
	"maps"
	"math"
	"math/rand"
	"regexp"
	"slices"
	"sort"
	"strconv"
	"strings"
	"testing"

	"loop.example/g00076/impl"
)

const (
	regForm   = `r(?:[0-9]|1[0-5])`
	numForm   = `(?:0|-?[1-9][0-9]*)`
	labelForm = `[a-z]{1,12}`
)

// lineByHand puts the line of a row together from its letters.
func lineByHand(row opRow, i impl.Instr) string {
	text := row.name
	for _, letter := range row.fields {
		switch letter {
		case 'A':
			text += fmt.Sprint(" r", i.A)
		case 'B':
			text += fmt.Sprint(" r", i.B)
		case 'C':
			text += fmt.Sprint(" r", i.C)
		case 'i':
			text += fmt.Sprint(" ", i.Imm)
		}
	}
	return text
}

func branches(row opRow) bool {
	return slices.Contains([]string{"beq", "bne", "blt", "jal"}, row.name)
}

var (
	labelLine = regexp.MustCompile(`\A(` + labelForm + `):\z`)
	wordLine  = regexp.MustCompile(`\A\.word (` + numForm + `)\z`)
	rowLines  = rowPatterns()
)

func rowPatterns() []*regexp.Regexp {
	var list []*regexp.Regexp
	for _, row := range opRows() {
		form := `\A` + row.name
		for _, letter := range row.fields {
			if letter == 'i' {
				form += ` (` + numForm + `|` + labelForm + `)`
			} else {
				form += ` (` + regForm + `)`
			}
		}
		list = append(list, regexp.MustCompile(form+`\z`))
	}
	return list
}

// readByHand reads a line by patterns alone, to be held against ReadLine.
func readByHand(line string) impl.Asm {
	if m := labelLine.FindStringSubmatch(line); m != nil {
		return impl.Asm{Kind: impl.AsmLabel, Label: m[1]}
	}
	if m := wordLine.FindStringSubmatch(line); m != nil {
		n, err := strconv.ParseUint(m[1], 10, 32)
		if err != nil {
			return impl.Asm{}
		}
		return impl.Asm{Kind: impl.AsmWord, Word: uint32(n)}
	}
	for _, row := range opRows() {
		if one := readRowByHand(row, line); one.Kind != impl.AsmNothing {
			return one
		}
	}
	return impl.Asm{}
}

func readRowByHand(row opRow, line string) impl.Asm {
	m := rowLines[row.op].FindStringSubmatch(line)
	if m == nil {
		return impl.Asm{}
	}
	one := impl.Asm{Kind: impl.AsmInstr, Instr: impl.Instr{Op: row.op}}
	for at, letter := range row.fields {
		field := m[at+1]
		if letter != 'i' {
			n, _ := strconv.Atoi(field[1:])
			one.Instr = withField(one.Instr, string(letter), n)
			continue
		}
		n, err := strconv.Atoi(field)
		switch {
		case err == nil && n >= -8192 && n <= 8191:
			one.Instr.Imm = n
		case field[0] >= 'a' && branches(row):
			one.Kind, one.Label = impl.AsmBranch, field
		default:
			return impl.Asm{}
		}
	}
	return one
}

// assembleByHand goes over the lines once for each sentence of the document.
func assembleByHand(text string) ([]uint32, int, int, map[string]int) {
	count := strings.Count(text, "\n")
	if text != "" && text[len(text)-1] != '\n' || len(text) > 20000 || count > 600 {
		return nil, impl.AsmLong, 0, nil
	}
	lines := strings.SplitN(text, "\n", count+1)[:count]
	labels := map[string]int{}
	at := 0
	for k, line := range lines {
		one := readByHand(line)
		_, twice := labels[one.Label]
		switch {
		case one.Kind == impl.AsmNothing:
			return nil, impl.AsmLine, k + 1, nil
		case one.Kind == impl.AsmLabel && twice:
			return nil, impl.AsmTwice, k + 1, nil
		case one.Kind == impl.AsmLabel:
			labels[one.Label] = at
		case at == 256:
			return nil, impl.AsmMany, k + 1, nil
		default:
			at++
		}
	}
	var words []uint32
	for k, line := range lines {
		switch one := readByHand(line); one.Kind {
		case impl.AsmWord:
			words = append(words, one.Word)
		case impl.AsmInstr:
			words = append(words, wordByHand(one.Instr))
		case impl.AsmBranch:
			to, there := labels[one.Label]
			if !there {
				return nil, impl.AsmNone, k + 1, nil
			}
			one.Instr.Imm = to - len(words) - 1
			words = append(words, wordByHand(one.Instr))
		}
	}
	return words, impl.AsmOk, 0, labels
}

// wantText holds Assemble and LabelsOf of a text against what is worked out by hand.
func wantText(t *testing.T, text string) {
	t.Helper()
	words, code, line, labels := assembleByHand(text)
	gotWords, gotCode, gotLine := impl.Assemble(text)
	if !slices.Equal(gotWords, words) || gotCode != code || gotLine != line {
		t.Errorf("Assemble(%.200q) = %v, %d, %d, not %v, %d, %d", text, gotWords, gotCode, gotLine, words, code, line)
	}
	var list []impl.LabelAt
	for name, at := range labels {
		list = append(list, impl.LabelAt{Name: name, At: at})
	}
	sort.Slice(list, func(i, j int) bool { return list[i].Name < list[j].Name })
	if got := impl.LabelsOf(text); !slices.Equal(got, list) {
		t.Errorf("LabelsOf(%.200q) = %v, not %v", text, got, list)
	}
}

func wantRefused(t *testing.T, text string, code int, line int) {
	t.Helper()
	words, gotCode, gotLine := impl.Assemble(text)
	if len(words) != 0 || gotCode != code || gotLine != line {
		t.Errorf("Assemble(%.200q) = %v, %d, %d, not %d, %d", text, words, gotCode, gotLine, code, line)
	}
	if list := impl.LabelsOf(text); len(list) != 0 {
		t.Errorf("LabelsOf(%.200q) = %v", text, list)
	}
}

func wantWords(t *testing.T, text string, words ...uint32) {
	t.Helper()
	got, code, line := impl.Assemble(text)
	if !slices.Equal(got, words) || code != impl.AsmOk || line != 0 {
		t.Errorf("Assemble(%.200q) = %v, %d, %d, not %v", text, got, code, line, words)
	}
}

// wantNothing asks for a line that is none, alone and as the only line of a text.
func wantNothing(t *testing.T, line string) {
	t.Helper()
	if one := impl.ReadLine(line); one != (impl.Asm{}) {
		t.Errorf("ReadLine(%.200q) = %+v", line, one)
	}
	if !strings.Contains(line, "\n") {
		wantRefused(t, line+"\n", impl.AsmLine, 1)
	}
}

func wantRead(t *testing.T, line string, want impl.Asm) {
	t.Helper()
	if one := impl.ReadLine(line); one != want {
		t.Errorf("ReadLine(%q) = %+v, not %+v", line, one, want)
	}
}

// labelNo is one of 26*26*26 names, in the order of their numbers.
func labelNo(n int) string {
	return string([]byte{byte('a' + n/676), byte('a' + n/26%26), byte('a' + n%26)})
}

func manyLabels(n int) string {
	text := ""
	for k := range n {
		text += labelNo(k) + ":\n"
	}
	return text
}

func TestAsmNumbers(t *testing.T) {
	if impl.MaxWords != 256 || impl.MaxText != 20000 || impl.MaxLines != 600 {
		t.Error("limits", impl.MaxWords, impl.MaxText, impl.MaxLines)
	}
	kinds := []int{impl.AsmNothing, impl.AsmLabel, impl.AsmWord, impl.AsmInstr, impl.AsmBranch}
	codes := []int{impl.AsmOk, impl.AsmLong, impl.AsmLine, impl.AsmTwice, impl.AsmMany, impl.AsmNone, impl.AsmFar}
	if !slices.Equal(kinds, []int{0, 1, 2, 3, 4}) || !slices.Equal(codes, []int{0, 1, 2, 3, 4, 5, 6}) {
		t.Error("numbers", kinds, codes)
	}
}

func TestLabelOk(t *testing.T) {
	for _, name := range []string{"a", "z", "az", "loop", "abcdefghijkl", "zzzzzzzzzzzz", "nop", "word", "r"} {
		if !impl.LabelOk(name) {
			t.Errorf("not LabelOk(%q)", name)
		}
		wantRead(t, name+":", impl.Asm{Kind: impl.AsmLabel, Label: name})
		wantRead(t, "jal r1 "+name, impl.Asm{Kind: impl.AsmBranch, Instr: impl.Instr{Op: impl.OpJal, A: 1}, Label: name})
	}
	for _, name := range []string{"", "abcdefghijklm", "A", "Z", "`", "{", "a1", "1a", "a_", "a b", " a", "a ", "a:", ":", ".a", "a\n", "\x00", "a\xff", "é", "aé", "loop-", strings.Repeat("a", 1000)} {
		if impl.LabelOk(name) {
			t.Errorf("LabelOk(%.30q)", name)
		}
		wantNothing(t, name+":")
		wantNothing(t, "jal r1 "+name)
	}
}

func TestEveryByteOfALabel(t *testing.T) {
	for b := range 256 {
		for _, name := range []string{string([]byte{byte(b)}), string([]byte{'a', byte(b)}), string([]byte{byte(b), 'z'})} {
			if impl.LabelOk(name) != (b >= 'a' && b <= 'z') {
				t.Errorf("LabelOk(%q)", name)
			}
		}
	}
}

func TestEveryInstrComesBackFromItsLine(t *testing.T) {
	regs := []int{0, 1, 9, 10, 15}
	imms := []int{-8192, -8191, -10, -1, 0, 1, 9, 8190, 8191}
	for _, row := range opRows() {
		for _, a := range regs {
			for _, b := range regs {
				for _, c := range regs {
					for _, imm := range imms {
						i := row.right(a, b, c, imm)
						line := impl.ShowInstr(i)
						if line != lineByHand(row, i) {
							t.Fatalf("ShowInstr(%+v) = %q", i, line)
						}
						wantRead(t, line, impl.Asm{Kind: impl.AsmInstr, Instr: i})
						if text := impl.ShowWord(wordByHand(i)); text != line {
							t.Fatalf("ShowWord(%d) = %q, not %q", wordByHand(i), text, line)
						}
						wantWords(t, line+"\n", wordByHand(i))
					}
				}
			}
		}
	}
}

func TestShowInstrOfWhatIsNone(t *testing.T) {
	var wrong []impl.Instr
	for _, op := range noOps() {
		wrong = append(wrong, impl.Instr{Op: op})
	}
	for _, row := range opRows() {
		for _, letter := range []string{"A", "B", "C", "i"} {
			for _, n := range []int{-1, 16, 1, 8192, -8193, math.MinInt, math.MaxInt} {
				i := withField(row.right(1, 2, 3, 4), letter, n)
				if row.has(letter) && n == 1 || letter == "i" && row.has("i") && n >= -8192 && n <= 8191 {
					continue
				}
				wrong = append(wrong, i)
			}
		}
	}
	for _, i := range wrong {
		if line := impl.ShowInstr(i); line != "" {
			t.Errorf("ShowInstr(%+v) = %q", i, line)
		}
	}
}

func TestWordsThatAreNoInstr(t *testing.T) {
	for _, one := range []struct {
		w    uint32
		line string
	}{
		{0, "nop"},
		{1, ".word 1"},
		{7, ".word 7"},
		{1<<26 - 1, ".word 67108863"},
		{33 << 26, ".word 2214592512"},
		{32 << 26, "trap 0"},
		{32<<26 | 16383, "trap -1"},
		{32<<26 | 8192, "trap -8192"},
		{32<<26 | 1<<14, ".word 2147500032"},
		{2147483648, "trap 0"},
		{4294967295, ".word 4294967295"},
		{876609541, "addi r1 r0 5"},
	} {
		if line := impl.ShowWord(one.w); line != one.line {
			t.Errorf("ShowWord(%d) = %q, not %q", one.w, line, one.line)
		}
		wantWords(t, one.line+"\n", one.w)
	}
}

func TestEveryWordComesBackFromItsLine(t *testing.T) {
	words := someWords()
	x := uint32(5)
	for range 3000 {
		x = x*1664525 + 1013904223
		words = append(words, x, x%33<<26|x>>6, x>>20)
	}
	for _, w := range words {
		line := impl.ShowWord(w)
		_, ok := impl.Decode(w)
		if ok == strings.HasPrefix(line, ".word ") {
			t.Fatalf("ShowWord(%d) = %q", w, line)
		}
		wantWords(t, line+"\n", w)
	}
}

func TestRegisters(t *testing.T) {
	for r := range 16 {
		wantRead(t, fmt.Sprint("rdc r", r), impl.Asm{Kind: impl.AsmInstr, Instr: impl.Instr{Op: impl.OpRdc, A: r}})
		wantRead(t, fmt.Sprint("xor r1 r2 r", r), impl.Asm{Kind: impl.AsmInstr, Instr: impl.Instr{Op: impl.OpXor, A: 1, B: 2, C: r}})
		wantRead(t, fmt.Sprint("jr r", r, " -4"), impl.Asm{Kind: impl.AsmInstr, Instr: impl.Instr{Op: impl.OpJr, B: r, Imm: -4}})
	}
	for _, r := range []string{"r16", "r00", "r-1", "r-0", "r01", "r015", "r+1", "r", "R1", "1", "0", "rr1", "r1r", "x1", "-r1", "r1,", "r99999999999999999999", "", "r 1", "a", "15", "r1 r1"} {
		wantNothing(t, "rdc "+r)
		wantNothing(t, "add "+r+" r2 r3")
		wantNothing(t, "add r1 "+r+" r3")
		wantNothing(t, "add r1 r2 "+r)
		wantNothing(t, "jr "+r+" 0")
		wantNothing(t, "jal "+r+" loop")
		wantNothing(t, "beq "+r+" r1 loop")
		wantNothing(t, "beq r1 "+r+" loop")
	}
}

func TestImmEdges(t *testing.T) {
	for _, row := range opRows() {
		if !row.has("i") {
			continue
		}
		head := strings.TrimSuffix(lineByHand(row, row.right(1, 2, 3, 0)), "0")
		for _, imm := range []int{-8192, -1, 0, 1, 8191} {
			wantRead(t, head+strconv.Itoa(imm), impl.Asm{Kind: impl.AsmInstr, Instr: row.right(1, 2, 3, imm)})
		}
		for _, field := range []string{"-8193", "8192", "16384", "-16384", "-0", "00", "01", "+1", "1.0", "0x1", "--1", "-", "", " 1", "1 ", "r1", "1a", "4294967296", "99999999999999999999", "-99999999999999999999", "A", "loop1", "abcdefghijklm"} {
			wantNothing(t, head+field)
		}
		if branches(row) {
			wantRead(t, head+"loop", impl.Asm{Kind: impl.AsmBranch, Instr: row.right(1, 2, 3, 0), Label: "loop"})
		} else {
			wantNothing(t, head+"loop")
		}
	}
}

func TestWordLines(t *testing.T) {
	for _, w := range []uint32{0, 1, 9, 10, 2147483647, 2147483648, 4294967294, 4294967295} {
		line := fmt.Sprint(".word ", w)
		wantRead(t, line, impl.Asm{Kind: impl.AsmWord, Word: w})
		wantWords(t, line+"\n", w)
	}
	for _, line := range []string{".word 4294967296", ".word -1", ".word -4294967295", ".word -0", ".word 00", ".word 01", ".word +1", ".word", ".word ", ".word  1", ".word 1 ", " .word 1", ".word 1 2", ".word a", ".word r1", ".word 0x10", "word 1", ".WORD 1", ".word1", ".word 18446744073709551616", ".word: 1", ".word:"} {
		wantNothing(t, line)
	}
}

func TestLinesThatAreNone(t *testing.T) {
	for _, line := range []string{"", " ", "  ", ":", "::", "a::", "a :", "a: ", " a:", "a: nop", "a b:", "what", "NOP", "nop ", " nop", "nop  ", "nop 0", "nop r0", "nop nop", "nop:1", "iret 0", "yield r1",
		"add", "add ", "add r1", "add r1 r2", "add r1 r2 ", "add r1  r2 r3", "add r1 r2 r3 ", " add r1 r2 r3", "add r1 r2 r3 r4", "add r1 r2 r3 4", "add r1 r2 4", "add r1, r2, r3", "add r1,r2,r3", "add\tr1\tr2\tr3",
		"addi r1 r2", "addi r1 5", "addi r1 r2 r3", "addi r1 r2 loop", "addi 5 r1 r2", "lui r1", "lui r1 r2 5", "lui 5", "lw r1 5 r2", "lw r1 r2", "trap", "trap r1", "trap r1 5", "trap loop", "trap 1 2", "jr 5", "jr r1", "jr r1 r2 5", "jr r1 loop",
		"rdc", "rdc 1", "rdc r1 1", "jal", "jal r1", "jal loop", "jal r1 loop:", "jal r1 loop loop", "jal r1 r2 loop", "jal r1 0 loop", "beq r1 loop", "beq r1 r2 r3 loop", "beq loop r1 r2", "csrr r1 loop", "nop;", "nop # rest", "# nop", "// nop", "nop\r", "nop\x00", "nop\n", "a:\n", "nop\nnop", "n\xc3\xb6p", "0", "13", "-1"} {
		wantNothing(t, line)
	}
}

func TestLongLines(t *testing.T) {
	for _, size := range []int{79, 80, 81, 82, 1000, 30000} {
		for _, line := range []string{strings.Repeat("a", size), strings.Repeat("a", size-1) + ":", ".word " + strings.Repeat("0", size-6), "nop" + strings.Repeat(" ", size-3), strings.Repeat(" ", size-3) + "nop", "trap " + strings.Repeat("0", size-6) + "5"} {
			if one := impl.ReadLine(line); len(line) != size || one != (impl.Asm{}) {
				t.Errorf("ReadLine of %d bytes (%.20q) = %+v", size, line, one)
			}
		}
	}
	long := strings.Repeat("a", 79) + ":"
	wantRefused(t, "nop\n"+long+"\nnop\n", impl.AsmLine, 2)
	wantRefused(t, "nop\na"+long+"\nnop\n", impl.AsmLine, 2)
}

func TestTextsThatAreNotLined(t *testing.T) {
	wantWords(t, "")
	wantRefused(t, "nop", impl.AsmLong, 0)
	wantRefused(t, "what", impl.AsmLong, 0)
	wantRefused(t, " ", impl.AsmLong, 0)
	wantRefused(t, "nop\nnop", impl.AsmLong, 0)
	wantRefused(t, "what\na:\na:\njal r1 b", impl.AsmLong, 0)
	wantRefused(t, "\n", impl.AsmLine, 1)
	wantRefused(t, "nop\n\n", impl.AsmLine, 2)
	wantRefused(t, "nop\n\nnop", impl.AsmLong, 0)
	wantRefused(t, "nop\r\n", impl.AsmLine, 1)
}

// No text of right lines is as long as MaxText, so what tells its edge is which fault is told.
func TestTextsOfMaxText(t *testing.T) {
	for _, head := range []string{"", "nop\n", "a:\na:\n"} {
		for _, size := range []int{19999, 20000} {
			text := head + strings.Repeat("a", size-len(head)-1) + "\n"
			line := strings.Count(text, "\n")
			if head == "a:\na:\n" {
				wantRefused(t, text, impl.AsmTwice, 2)
			} else {
				wantRefused(t, text, impl.AsmLine, line)
			}
		}
		for _, size := range []int{20001, 20002, 100000} {
			wantRefused(t, head+strings.Repeat("a", size-len(head)-1)+"\n", impl.AsmLong, 0)
		}
	}
	wantRefused(t, strings.Repeat("a", 20000), impl.AsmLong, 0)
}

func TestTextsOfMaxLines(t *testing.T) {
	wantWords(t, manyLabels(599))
	wantWords(t, manyLabels(600))
	if list := impl.LabelsOf(manyLabels(600)); len(list) != 600 || list[599] != (impl.LabelAt{Name: labelNo(599)}) {
		t.Error("labels", len(list))
	}
	wantRefused(t, manyLabels(601), impl.AsmLong, 0)
	wantRefused(t, "what\n"+manyLabels(600), impl.AsmLong, 0)
	wantRefused(t, "what\n"+manyLabels(599), impl.AsmLine, 1)
	wantRefused(t, strings.Repeat("\n", 600), impl.AsmLine, 1)
	wantRefused(t, strings.Repeat("\n", 601), impl.AsmLong, 0)
	wantText(t, manyLabels(344)+strings.Repeat("nop\n", 256))
	wantText(t, manyLabels(345)+strings.Repeat("nop\n", 256))
}

func TestMaxWordsAndOneMore(t *testing.T) {
	full := strings.Repeat("trap 3\n", 256)
	wantWords(t, full, slices.Repeat([]uint32{32<<26 | 3}, 256)...)
	wantText(t, full+"a:\nb:\n")
	wantText(t, "jal r1 end\n"+full[7:]+"end:\n")
	wantRefused(t, full+"nop\n", impl.AsmMany, 257)
	wantRefused(t, full+".word 5\n", impl.AsmMany, 257)
	wantRefused(t, "a:\n"+full+"b:\njal r1 a\n", impl.AsmMany, 259)
	wantRefused(t, full+"jal r1 nowhere\n", impl.AsmMany, 257)
	wantRefused(t, full+"nop\nnop\nwhat\n", impl.AsmMany, 257)
	wantRefused(t, full+"what\nnop\n", impl.AsmLine, 257)
	wantRefused(t, full+"a:\na:\nnop\n", impl.AsmTwice, 258)
	wantRefused(t, full+"nop\na:\na:\n", impl.AsmMany, 257)
	wantRefused(t, "jal r1 nowhere\n"+full, impl.AsmMany, 257)
	wantRefused(t, strings.Repeat("trap 3\n", 600), impl.AsmMany, 257)
}

func TestTwoThingsAreWrong(t *testing.T) {
	for _, one := range []struct {
		text string
		code int
		line int
	}{
		{"what\nwho\n", impl.AsmLine, 1},
		{"what\na:\na:\n", impl.AsmLine, 1},
		{"a:\nwhat\na:\n", impl.AsmLine, 2},
		{"a:\na:\nwhat\n", impl.AsmTwice, 2},
		{"a:\nnop\nb:\na:\nb:\n", impl.AsmTwice, 4},
		{"a:\nnop\nb:\nb:\na:\n", impl.AsmTwice, 4},
		{"a:\na:\na:\n", impl.AsmTwice, 2},
		{"a:\na: \n", impl.AsmLine, 2},
		{"jal r1 nowhere\nwhat\n", impl.AsmLine, 2},
		{"what\njal r1 nowhere\n", impl.AsmLine, 1},
		{"jal r1 nowhere\nnop\na:\na:\n", impl.AsmTwice, 4},
		{"a:\na:\njal r1 nowhere\n", impl.AsmTwice, 2},
		{"jal r1 nowhere\njal r1 nobody\n", impl.AsmNone, 1},
		{"a:\njal r1 a\nnop\nbeq r1 r2 nowhere\njal r1 nobody\n", impl.AsmNone, 4},
		{"nop\nb:\njal r1 a\na:\njal r1 c\n", impl.AsmNone, 5},
		{"jal r16 nowhere\n", impl.AsmLine, 1},
		{"jal r1 nowhere\njal r16 nowhere\n", impl.AsmLine, 2},
		{"\njal r1 nowhere", impl.AsmLong, 0},
	} {
		wantRefused(t, one.text, one.code, one.line)
		wantText(t, one.text)
	}
}

func TestBranches(t *testing.T) {
	for _, row := range opRows() {
		if !branches(row) {
			continue
		}
		head := strings.TrimSuffix(lineByHand(row, row.right(3, 4, 0, 0)), "0")
		for _, one := range []struct {
			ahead  string
			behind string
			imm    int
		}{
			{"x:\n", "", -1},
			{"", "x:\n", 0},
			{"x:\nnop\n", "", -2},
			{"nop\nx:\nnop\n.word 3\n", "", -3},
			{"", "nop\nx:\n", 1},
			{"nop\n", "nop\ntrap 1\nx:\nnop\n", 2},
			{"x:\ny:\nz:\n", "", -1},
			{"", "y:\nz:\nx:\n", 0},
			{"x:\n" + strings.Repeat("nop\n", 255), "", -256},
			{"", strings.Repeat("nop\n", 255) + "x:\n", 255},
		} {
			text := one.ahead + head + "x\n" + one.behind
			at := strings.Count(one.ahead, "\n") - strings.Count(one.ahead, ":")
			words, code, line := impl.Assemble(text)
			if code != impl.AsmOk || line != 0 || at >= len(words) || words[at] != wordByHand(row.right(3, 4, 0, one.imm)) {
				t.Errorf("Assemble(%.100q) = %v, %d, %d", text, words, code, line)
			}
			wantText(t, text)
		}
	}
}

// A branch with a number stays as it is, whatever labels there are.
func TestBranchesByNumber(t *testing.T) {
	wantWords(t, "a:\nbeq r1 r2 8191\njal r15 -8192\n", wordByHand(impl.Instr{Op: impl.OpBeq, A: 1, B: 2, Imm: 8191}), wordByHand(impl.Instr{Op: impl.OpJal, A: 15, Imm: -8192}))
}

// A name that an op or a register could be mistaken for is a label all the same.
func TestLabelsNamedLikeOps(t *testing.T) {
	wantWords(t, "nop:\nnop\njal r1 nop\nr:\njal r1 r\nword:\n", 0, wordByHand(impl.Instr{Op: impl.OpJal, A: 1, Imm: -2}), wordByHand(impl.Instr{Op: impl.OpJal, A: 1, Imm: -1}))
}

func TestLabelsOf(t *testing.T) {
	for _, one := range []struct {
		text string
		list []impl.LabelAt
	}{
		{"", nil},
		{"nop\n", nil},
		{"a:\n", []impl.LabelAt{{Name: "a"}}},
		{"zoo:\nnop\nb:\n.word 9\nab:\njal r1 zoo\na:\n", []impl.LabelAt{{Name: "a", At: 3}, {Name: "ab", At: 2}, {Name: "b", At: 1}, {Name: "zoo", At: 0}}},
		{"nop\nb:\na:\nnop\n", []impl.LabelAt{{Name: "a", At: 1}, {Name: "b", At: 1}}},
		{"nop\nnop\nend:\n", []impl.LabelAt{{Name: "end", At: 2}}},
		{"c:\nb:\na:\n", []impl.LabelAt{{Name: "a"}, {Name: "b"}, {Name: "c"}}},
		{"a:", nil},
		{"a:\na:\n", nil},
		{"a:\nwhat\n", nil},
		{"a:\njal r1 b\n", nil},
		{"a:\n" + strings.Repeat("nop\n", 257), nil},
		{"a:\n" + strings.Repeat("nop\n", 256) + "b:\n", []impl.LabelAt{{Name: "a"}, {Name: "b", At: 256}}},
	} {
		if list := impl.LabelsOf(one.text); !slices.Equal(list, one.list) {
			t.Errorf("LabelsOf(%.100q) = %v", one.text, list)
		}
		wantText(t, one.text)
	}
}

func TestLabelsComeInOneOrder(t *testing.T) {
	text := ""
	for k := range 300 {
		text += labelNo(k*7919%17576) + ":\n"
	}
	wantText(t, text)
	if first, second := impl.LabelsOf(text), impl.LabelsOf(text); !slices.Equal(first, second) {
		t.Error("two orders")
	}
}

func TestDisassemble(t *testing.T) {
	for _, words := range [][]uint32{nil, {}, {0}, {876609541, 7}, {4294967295, 0, 1}} {
		want := ""
		for _, w := range words {
			want += impl.ShowWord(w) + "\n"
		}
		if text, ok := impl.Disassemble(words); text != want || !ok {
			t.Errorf("Disassemble(%v) = %q, %v", words, text, ok)
		}
	}
	for _, size := range []int{257, 258, 1000, 30000} {
		if text, ok := impl.Disassemble(make([]uint32, size)); text != "" || ok {
			t.Errorf("Disassemble of %d words = %.20q, %v", size, text, ok)
		}
	}
}

func TestWordsComeBackFromTheirText(t *testing.T) {
	x := uint32(77)
	for _, size := range []int{0, 1, 2, 100, 255, 256} {
		words := []uint32{}
		for range size {
			x = x*1664525 + 1013904223
			if x>>31 == 0 {
				words = append(words, x)
			} else {
				words = append(words, 32<<26|x>>8%16384)
			}
		}
		text, ok := impl.Disassemble(words)
		if !ok || strings.Count(text, "\n") != size {
			t.Errorf("Disassemble of %d words: %v", size, ok)
		}
		wantWords(t, text, words...)
	}
}

func TestDisassembleWritesIntoNothing(t *testing.T) {
	room := make([]uint32, 10)
	for k := range room {
		room[k] = uint32(k + 1)
	}
	before := slices.Clone(room)
	impl.Disassemble(room[2:5:8])
	impl.Disassemble(room[:0])
	if !slices.Equal(room, before) {
		t.Error("written", room)
	}
}

// Writing into what one call answered must not show in what the next one answers.
func TestAssembledWordsAreNewMemory(t *testing.T) {
	text := "b:\nnop\na:\ntrap 1\n"
	words, _, _ := impl.Assemble(text)
	words[0], words[1] = 9, 9
	wantWords(t, text, 0, 32<<26|1)
	list := impl.LabelsOf(text)
	list[0], list[1] = impl.LabelAt{}, impl.LabelAt{}
	wantText(t, text)
}

// oddLine is mostly a right line, sometimes one that is nearly right.
func oddLine(r *rand.Rand) string {
	switch r.Intn(12) {
	case 0, 1:
		return labelNo(r.Intn(6)) + ":"
	case 2:
		return fmt.Sprint(".word ", r.Uint32()>>r.Intn(32))
	case 3, 4:
		return fmt.Sprintf("%s %s", []string{"jal r1", "beq r1 r2", "bne r15 r0", "blt r3 r3"}[r.Intn(4)], labelNo(r.Intn(6)))
	case 5:
		return nearLine(r)
	}
	row := opRows()[r.Intn(33)]
	return lineByHand(row, row.right(r.Intn(16), r.Intn(16), r.Intn(16), r.Intn(16384)-8192))
}

// nearLine is a right line with one byte put in, taken out or changed; at times it stays right.
func nearLine(r *rand.Rand) string {
	row := opRows()[r.Intn(33)]
	line := []byte(lineByHand(row, row.right(r.Intn(18), r.Intn(18), r.Intn(18), r.Intn(17000)-8500)))
	if r.Intn(6) == 0 {
		line = []byte(fmt.Sprint(".word ", r.Uint64()>>r.Intn(64)))
	}
	const bytes = " :.,-019abrz\tA"
	at := r.Intn(len(line))
	switch r.Intn(4) {
	case 0:
		line = slices.Insert(line, at, bytes[r.Intn(len(bytes))])
	case 1:
		line = slices.Delete(line, at, at+1)
	case 2:
		line[at] = bytes[r.Intn(len(bytes))]
	}
	return string(line)
}

func TestOddLines(t *testing.T) {
	r := rand.New(rand.NewSource(3))
	kinds := map[int]int{}
	for range 4000 {
		line := nearLine(r)
		if r.Intn(4) == 0 {
			line = oddLine(r)
		}
		want := readByHand(line)
		kinds[want.Kind]++
		wantRead(t, line, want)
	}
	if len(kinds) != 5 {
		t.Error("kinds that came up", slices.Sorted(maps.Keys(kinds)))
	}
}

func TestOddTexts(t *testing.T) {
	r := rand.New(rand.NewSource(4))
	codes := map[int]int{}
	for range 400 {
		text := ""
		for range r.Intn(9) {
			text += oddLine(r) + "\n"
		}
		if r.Intn(30) == 0 {
			text += "nop"
		}
		_, code, _, _ := assembleByHand(text)
		codes[code]++
		wantText(t, text)
	}
	if want := []int{impl.AsmOk, impl.AsmLong, impl.AsmLine, impl.AsmTwice, impl.AsmNone}; !slices.Equal(slices.Sorted(maps.Keys(codes)), want) {
		t.Error("codes that came up", codes)
	}
}
