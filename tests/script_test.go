package tests

import (
	"fmt"
	"math"
	"math/rand"
	"regexp"
	"slices"
	"strconv"
	"strings"
	"testing"

	"loop.example/g00076/impl"
)

// nameTables have six partitions, of whose names each is the beginning of another or begins with one; no device.
func nameTables() impl.Tables {
	x := flowTables(6)
	for p, name := range []string{"net", "ne", "neta", "run", "n", "netamost"} {
		x.Parts[p].Name = name
	}
	x.Devs = nil
	return x
}

func scriptMakers() []func() impl.Tables {
	return append(tableMakers(), nameTables)
}

// scriptForms are made once, as every line is held against them.
var scriptForms = []*regexp.Regexp{
	regexp.MustCompile(`\Arun (0|[1-9][0-9]{0,4})\z`),
	regexp.MustCompile(`\Ainput ([0-7]) (0|[1-9][0-9]{0,9})\z`),
	regexp.MustCompile(`\Arestart ([^ ]*)\z`),
}

func cmdByHand(x impl.Tables, line string) (impl.Cmd, int) {
	for kind, form := range scriptForms {
		found := form.FindStringSubmatch(line)
		if found == nil {
			continue
		}
		if kind == 2 {
			p := slices.IndexFunc(x.Parts, func(row impl.PartRow) bool { return row.Name == found[1] })
			if p < 0 {
				return impl.Cmd{}, impl.ScriptName
			}
			return impl.Cmd{Kind: 2, At: p}, impl.ScriptOk
		}
		c := impl.Cmd{Kind: kind}
		c.At, _ = strconv.Atoi(found[1])
		if kind == 1 {
			w, err := strconv.ParseUint(found[2], 10, 32)
			if err != nil {
				return impl.Cmd{}, impl.ScriptLine
			}
			c.Word = uint32(w)
		}
		if kind == 0 && c.At > 50000 {
			return impl.Cmd{}, impl.ScriptLine
		}
		return c, impl.ScriptOk
	}
	return impl.Cmd{}, impl.ScriptLine
}

// scriptByHand is for whatever tables and text.
func scriptByHand(x impl.Tables, text string) ([]impl.Cmd, int, int) {
	if !soundByHand(x) {
		return nil, impl.ScriptTables, 0
	}
	pieces := strings.SplitAfter(text, "\n")
	if len(text) > 20000 || len(pieces) > 601 || pieces[len(pieces)-1] != "" {
		return nil, impl.ScriptLong, 0
	}
	cmds := []impl.Cmd{}
	for at, line := range pieces[:len(pieces)-1] {
		c, code := cmdByHand(x, strings.TrimSuffix(line, "\n"))
		if code != impl.ScriptOk {
			return nil, code, at + 1
		}
		if at >= 300 {
			return nil, impl.ScriptMany, at + 1
		}
		cmds = append(cmds, c)
	}
	return cmds, impl.ScriptOk, 0
}

// printByHand is for whatever tables and commands.
func printByHand(x impl.Tables, cmds []impl.Cmd) (string, bool) {
	if !soundByHand(x) || len(cmds) > 300 {
		return "", false
	}
	text := ""
	for _, c := range cmds {
		switch {
		case c.Kind == 0 && isBetween(c.At, 0, 50000) && c.Word == 0:
			text += fmt.Sprintf("run %d\n", c.At)
		case c.Kind == 1 && isBetween(c.At, 0, 7):
			text += fmt.Sprintf("input %d %d\n", c.At, c.Word)
		case c.Kind == 2 && isBetween(c.At, 0, len(x.Parts)-1) && c.Word == 0:
			text += fmt.Sprintf("restart %s\n", x.Parts[c.At].Name)
		default:
			return "", false
		}
	}
	return text, true
}

// wantScript holds a text against the model; one that is taken must be what is made of its commands. It tells the code.
func wantScript(t *testing.T, x impl.Tables, text string) int {
	t.Helper()
	cmds, code, line := impl.ParseScript(x, text)
	want, wantCode, wantLine := scriptByHand(x, text)
	if code != wantCode || line != wantLine || !slices.Equal(cmds, want) {
		t.Errorf("code %d at line %d, not %d at line %d, %.300s, not %.300s, of\n%q", code, line, wantCode, wantLine, fmt.Sprint(cmds), fmt.Sprint(want), shortText(text))
		return code
	}
	if code != impl.ScriptOk {
		if len(cmds) != 0 {
			t.Errorf("%v beside code %d", cmds, code)
		}
		return code
	}
	if again, ok := impl.PrintScript(x, cmds); again != text || !ok {
		t.Errorf("%v and %q is made of the commands of %q", ok, shortText(again), shortText(text))
	}
	return code
}

// wantScriptAt asks the model too, so that neither the case nor the model can be wrong alone.
func wantScriptAt(t *testing.T, x impl.Tables, text string, code int, line int) {
	t.Helper()
	cmds, gotCode, gotLine := impl.ParseScript(x, text)
	if gotCode != code || gotLine != line || len(cmds) != 0 {
		t.Errorf("%d commands and code %d at line %d, not code %d at line %d, of\n%q", len(cmds), gotCode, gotLine, code, line, shortText(text))
	}
	wantScript(t, x, text)
}

// wantCmdsOf is for a text that is taken.
func wantCmdsOf(t *testing.T, x impl.Tables, text string, want ...impl.Cmd) {
	t.Helper()
	cmds, code, line := impl.ParseScript(x, text)
	if code != impl.ScriptOk || line != 0 || !slices.Equal(cmds, want) {
		t.Errorf("%.300s, code %d and line %d, not %.300s, of\n%q", fmt.Sprint(cmds), code, line, fmt.Sprint(want), shortText(text))
	}
	wantScript(t, x, text)
}

// wantScriptOf asks PrintScript and the model; what has a text must come back from it.
func wantScriptOf(t *testing.T, x impl.Tables, cmds []impl.Cmd, want string, is bool) {
	t.Helper()
	text, ok := impl.PrintScript(x, cmds)
	if text != want || ok != is {
		t.Errorf("PrintScript of %.300s is %v and %q, not %v and %q", fmt.Sprint(cmds), ok, shortText(text), is, shortText(want))
	}
	if byHand, right := printByHand(x, cmds); byHand != want || right != is {
		t.Errorf("by hand %.300s is %v and %q, not %v and %q", fmt.Sprint(cmds), right, shortText(byHand), is, shortText(want))
	}
	if !ok {
		return
	}
	back, code, line := impl.ParseScript(x, text)
	if code != impl.ScriptOk || line != 0 || !slices.Equal(back, cmds) {
		t.Errorf("%.300s comes back as %.300s with code %d at line %d", fmt.Sprint(cmds), fmt.Sprint(back), code, line)
	}
}

func wantNoScript(t *testing.T, x impl.Tables, cmds ...impl.Cmd) {
	t.Helper()
	wantScriptOf(t, x, cmds, "", false)
}

func TestScriptConstants(t *testing.T) {
	got := []int{impl.ScriptOk, impl.ScriptLong, impl.ScriptLine, impl.ScriptName, impl.ScriptMany, impl.ScriptTables}
	for want, code := range got {
		if code != want {
			t.Error(got)
		}
	}
}

func TestScriptOfNoLine(t *testing.T) {
	for _, maker := range scriptMakers() {
		wantCmdsOf(t, maker(), "")
		wantScriptOf(t, maker(), nil, "", true)
		wantScriptOf(t, maker(), []impl.Cmd{}, "", true)
	}
}

func TestScriptOfEachForm(t *testing.T) {
	x := rightTables()
	wantCmdsOf(t, x, "run 12\n", runCmd(12))
	wantCmdsOf(t, x, "input 2 34\n", inputCmd(2, 34))
	wantCmdsOf(t, x, "restart net\n", restartCmd(1))
	wantCmdsOf(t, x, "restart a\nrun 7\ninput 0 9\nrun 7\nrestart logwrite\ninput 1 0\nrun 0\n", restartCmd(0), runCmd(7), inputCmd(0, 9), runCmd(7), restartCmd(2), inputCmd(1, 0), runCmd(0))
	wantScriptOf(t, x, []impl.Cmd{restartCmd(0), runCmd(7), inputCmd(0, 9), runCmd(7), restartCmd(2), inputCmd(1, 0), runCmd(0)}, "restart a\nrun 7\ninput 0 9\nrun 7\nrestart logwrite\ninput 1 0\nrun 0\n", true)
}

func TestScriptByItsNumbers(t *testing.T) {
	for _, maker := range scriptMakers() {
		x := maker()
		for _, n := range []int{0, 1, 9, 10, 99, 4999, 5000, 5001, 49999, 50000} {
			wantCmdsOf(t, x, fmt.Sprintf("run %d\n", n), runCmd(n))
		}
		for _, n := range append(farInts(), 50001, 50010, 65536, 99999, 100000, 500000, -1, -2, -50000, -50001) {
			if !isBetween(n, 0, 50000) {
				wantScriptAt(t, x, fmt.Sprintf("run %d\n", n), impl.ScriptLine, 1)
			}
		}
		// Whatever devices the tables have, eight can be named.
		for d := range 8 {
			wantCmdsOf(t, x, fmt.Sprintf("input %d %d\n", d, 70+d), inputCmd(d, uint32(70+d)))
		}
		for _, d := range append(oddInts(), 8, 9, 10, 17, 80, 256, -1, -2, -7, -8) {
			wantScriptAt(t, x, fmt.Sprintf("input %d 5\n", d), impl.ScriptLine, 1)
		}
		for _, w := range []uint32{0, 1, 9, 10, 1 << 16, 1<<31 - 1, 1 << 31, 999999999, 1000000000, math.MaxUint32 - 1, math.MaxUint32} {
			wantCmdsOf(t, x, fmt.Sprintf("input 3 %d\n", w), inputCmd(3, w))
		}
		for _, w := range []int{1 << 32, 1<<32 + 1, 4294967305, 9999999999, 42949672950, 1 << 33, math.MaxInt, -1, -2, -1 << 31, -math.MaxUint32, -1 << 32, math.MinInt} {
			wantScriptAt(t, x, fmt.Sprintf("input 3 %d\n", w), impl.ScriptLine, 1)
		}
	}
}

func numbersThatAreNone() []string {
	return []string{"", "-", "+", "+1", "+0", "-0", "--1", "1-", "00", "01", "007", "-01", "a", "1a", "a1", "0x1", "1.0", "1.", ".1", "1e1", "1_0", "1,0", "#", "N", "0\t", "\t0", "1\r", "\v1", "\x00", "1\x00", "\xff", "１", "٣", "²", "-١", "18446744073709551616", "18446744073709551617", "36893488147419103232", strings.Repeat("0", 400), strings.Repeat("1", 400), "1" + strings.Repeat("0", 400)}
}

func TestScriptByNumbersThatAreNone(t *testing.T) {
	for _, maker := range scriptMakers() {
		for _, word := range numbersThatAreNone() {
			wantScriptAt(t, maker(), "run "+word+"\n", impl.ScriptLine, 1)
			wantScriptAt(t, maker(), "input "+word+" 1\n", impl.ScriptLine, 1)
			wantScriptAt(t, maker(), "input 1 "+word+"\n", impl.ScriptLine, 1)
			wantScriptAt(t, maker(), "input "+word+" "+word+"\n", impl.ScriptLine, 1)
			wantScriptAt(t, maker(), "run 1\nrestart "+maker().Parts[0].Name+"\nrun "+word+"\n", impl.ScriptLine, 3)
		}
	}
}

func TestScriptByCountOfWords(t *testing.T) {
	x := rightTables()
	for _, line := range []string{"run", "run 1 1", "run 1 a", "run 1 run 1", "run 1 1 1", "input", "input 1", "input 1 1 1", "input 1 1 a", "input 1 1 input 1 1", "restart", "restart a a", "restart a net", "restart a 1", "restart a restart a", "restart nobody a", "restart a nobody", "1", "run1", "input1 1", "input 11", "restarta", "a", "1 run", "a restart", "1 1 input", "run run 1", "input input 1 1", "restart restart a"} {
		wantScriptAt(t, x, line+"\n", impl.ScriptLine, 1)
		wantScriptAt(t, x, "run 1\ninput 1 1\n"+line+"\nrun 1\n", impl.ScriptLine, 3)
	}
}

func TestScriptByBlanks(t *testing.T) {
	x := rightTables()
	for _, line := range []string{"run 5", "input 1 5", "restart a"} {
		for at := range len(line) + 1 {
			// A blank more, wherever it stands, makes a word more.
			wantScriptAt(t, x, line[:at]+" "+line[at:]+"\n", impl.ScriptLine, 1)
			for _, other := range []string{"\t", "\r", "\v", "\f", "\x00", "\u00a0", "\u2003", "\ufeff", "\xa0"} {
				code := impl.ScriptLine
				if strings.HasPrefix(line, "restart ") && at > 7 {
					code = impl.ScriptName
				}
				wantScriptAt(t, x, line[:at]+other+line[at:]+"\n", code, 1)
			}
		}
		wantScriptAt(t, x, strings.ReplaceAll(line, " ", "\t")+"\n", impl.ScriptLine, 1)
		wantScriptAt(t, x, strings.ReplaceAll(line, " ", "")+"\n", impl.ScriptLine, 1)
		wantScriptAt(t, x, strings.ReplaceAll(line, " ", "\n")+"\n", impl.ScriptLine, 1)
	}
	for _, line := range []string{"", " ", "  ", "   ", "\t", "\r", ";", "# run 5", "//", "run 5;", "\x00"} {
		wantScriptAt(t, x, line+"\n", impl.ScriptLine, 1)
		wantScriptAt(t, x, "run 5\n"+line+"\n", impl.ScriptLine, 2)
		wantScriptAt(t, x, "run 5\n"+line+"\nrun 5\n", impl.ScriptLine, 2)
	}
	wantScriptAt(t, x, "run 5\r\ninput 1 5\r\n", impl.ScriptLine, 1)
	wantScriptAt(t, x, "input 1 5\r\nrun 5\n", impl.ScriptLine, 1)
	wantScriptAt(t, x, "run 5\nrestart a\r\n", impl.ScriptName, 2)
	wantScriptAt(t, x, "restart a\n\rrun 5\n", impl.ScriptLine, 2)
	wantScriptAt(t, x, "restart a\rrun 5\n", impl.ScriptLine, 1)
}

func TestScriptByFirstWords(t *testing.T) {
	x := rightTables()
	for _, first := range []string{"Run", "RUN", "rUn", "ru", "runs", "unr", "Input", "INPUT", "inpu", "inputs", "in", "Restart", "RESTART", "restar", "restarts", "start", "reset", "a", "net", "wait", "halt", "0", "1", "2", "CmdRun", "run\x00", "\x00run", "rün", "-", "", "mem", "slot", ".word", "nop"} {
		for _, rest := range []string{"", " 5", " 1 5", " a", " a 5", " "} {
			wantScriptAt(t, x, first+rest+"\n", impl.ScriptLine, 1)
		}
	}
}

func TestScriptByNames(t *testing.T) {
	for _, maker := range scriptMakers() {
		x := maker()
		for p, row := range x.Parts {
			wantCmdsOf(t, x, "restart "+row.Name+"\n", restartCmd(p))
			wantScriptOf(t, x, []impl.Cmd{restartCmd(p)}, "restart "+row.Name+"\n", true)
			for _, name := range []string{strings.ToUpper(row.Name), row.Name + "\t", row.Name + "y", row.Name + row.Name, "y" + row.Name, row.Name + "0", row.Name + ":", strconv.Itoa(p), row.Name + "\x00"} {
				wantScriptAt(t, x, "restart "+name+"\n", impl.ScriptName, 1)
				wantScriptAt(t, x, "run 1\nrestart "+row.Name+"\nrestart "+name+"\n", impl.ScriptName, 3)
			}
		}
		for _, name := range []string{"nobody", "-", "-1", "0", "*", "restart", "input", "\xff", strings.Repeat("a", 400)} {
			wantScriptAt(t, x, "restart "+name+"\n", impl.ScriptName, 1)
		}
		// The empty word is a word: the line has its form, and nobody has that name.
		wantScriptAt(t, x, "restart \n", impl.ScriptName, 1)
		wantScriptAt(t, x, "restart  \n", impl.ScriptLine, 1)
		wantScriptAt(t, x, "restart\n", impl.ScriptLine, 1)
	}
	x := nameTables()
	for p, name := range []string{"net", "ne", "neta", "run", "n", "netamost"} {
		wantCmdsOf(t, x, "restart "+name+"\n", restartCmd(p))
	}
	for _, name := range []string{"nett", "e", "netam", "netamos", "ru", "netamosts", "et", "ta"} {
		wantScriptAt(t, x, "restart "+name+"\n", impl.ScriptName, 1)
	}
	wantScriptAt(t, leastTables(), "restart b\n", impl.ScriptName, 1)
}

// The names are those of the tables that are handed in, and of no others.
func TestScriptByOtherTables(t *testing.T) {
	x, y := rightTables(), rightTables()
	y.Parts[0].Name, y.Parts[2].Name = y.Parts[2].Name, y.Parts[0].Name
	text := "restart a\nrestart net\nrestart logwrite\n"
	wantCmdsOf(t, x, text, restartCmd(0), restartCmd(1), restartCmd(2))
	wantCmdsOf(t, y, text, restartCmd(2), restartCmd(1), restartCmd(0))
	wantCmdsOf(t, x, text, restartCmd(0), restartCmd(1), restartCmd(2))
	wantScriptAt(t, nameTables(), text, impl.ScriptName, 1)
	wantScriptAt(t, leastTables(), text, impl.ScriptName, 2)
}

func TestScriptThatIsNotLined(t *testing.T) {
	x := rightTables()
	for _, text := range []string{"run 5\n", "input 1 5\n", "restart a\n", "run 5\nrun 5\n", "\n", "x\n", "restart nobody\n", "run 5\n\n"} {
		wantScriptAt(t, x, text+"x", impl.ScriptLong, 0)
		wantScriptAt(t, x, text+" ", impl.ScriptLong, 0)
		wantScriptAt(t, x, text+"run 5", impl.ScriptLong, 0)
		wantScriptAt(t, x, text+"\r", impl.ScriptLong, 0)
		wantScriptAt(t, x, text+"\x00", impl.ScriptLong, 0)
		if cut := strings.TrimRight(text, "\n"); cut != "" {
			wantScriptAt(t, x, cut, impl.ScriptLong, 0)
		}
	}
	wantScriptAt(t, x, " ", impl.ScriptLong, 0)
	// Too many bytes in few lines, and just so many.
	long := "restart " + strings.Repeat("a", 20000-9) + "\n"
	wantScriptAt(t, x, long, impl.ScriptName, 1)
	wantScriptAt(t, x, "restart a"+long[8:], impl.ScriptLong, 0)
	wantScriptAt(t, x, strings.Repeat("x", 19999)+"\n", impl.ScriptLine, 1)
	wantScriptAt(t, x, strings.Repeat("x", 20000)+"\n", impl.ScriptLong, 0)
	wantScriptAt(t, x, "run 5\n"+strings.Repeat("x", 19993)+"\n", impl.ScriptLine, 2)
	wantScriptAt(t, x, "run 5\n"+strings.Repeat("x", 19994)+"\n", impl.ScriptLong, 0)
	wantScriptAt(t, x, strings.Repeat("x", 90000), impl.ScriptLong, 0)
	// Too many lines of few bytes, and just so many.
	wantScriptAt(t, x, strings.Repeat("run 5\n", 600), impl.ScriptMany, 301)
	wantScriptAt(t, x, strings.Repeat("run 5\n", 601), impl.ScriptLong, 0)
	wantScriptAt(t, x, strings.Repeat("\n", 600), impl.ScriptLine, 1)
	wantScriptAt(t, x, strings.Repeat("\n", 601), impl.ScriptLong, 0)
	wantScriptAt(t, x, "x\n"+strings.Repeat("run 5\n", 600), impl.ScriptLong, 0)
	wantScriptAt(t, x, strings.Repeat("run 5\n", 600)+"x", impl.ScriptLong, 0)
}

// fullScript are 300 commands of all sorts, for rightTables.
func fullScript() ([]impl.Cmd, string) {
	cmds, text := []impl.Cmd{}, ""
	for n := range 100 {
		cmds = append(cmds, runCmd(n*505), inputCmd(n%8, uint32(n)*43000000), restartCmd(n%3))
		text += fmt.Sprintf("run %d\ninput %d %d\nrestart %s\n", n*505, n%8, n*43000000, []string{"a", "net", "logwrite"}[n%3])
	}
	return cmds, text
}

func TestScriptOfAsManyAsThereMayBe(t *testing.T) {
	x := rightTables()
	cmds, text := fullScript()
	wantCmdsOf(t, x, text, cmds...)
	wantScriptOf(t, x, cmds, text, true)
	for _, more := range []impl.Cmd{runCmd(1), inputCmd(1, 1), restartCmd(0), runCmd(-1)} {
		wantNoScript(t, x, append(slices.Clone(cmds), more)...)
		wantNoScript(t, x, append([]impl.Cmd{more}, cmds...)...)
	}
	wantNoScript(t, x, slices.Repeat([]impl.Cmd{runCmd(1)}, 301)...)
	wantNoScript(t, x, slices.Repeat([]impl.Cmd{runCmd(1)}, 60001)...)
	wantScriptOf(t, x, cmds[:299], strings.TrimSuffix(text, "restart a\n"), true)
	// The longest line that there is, as often as may be.
	most := slices.Repeat([]impl.Cmd{inputCmd(7, math.MaxUint32)}, 300)
	wantScriptOf(t, x, most, strings.Repeat("input 7 4294967295\n", 300), true)
	wantNoScript(t, x, append(most, inputCmd(7, 1))...)
}

func TestScriptOfOneLineTooMany(t *testing.T) {
	x := rightTables()
	_, text := fullScript()
	for line, code := range map[string]int{
		"run 1": impl.ScriptMany, "input 1 1": impl.ScriptMany, "restart net": impl.ScriptMany,
		"restart nobody": impl.ScriptName, "restart ": impl.ScriptName,
		"": impl.ScriptLine, "run": impl.ScriptLine, "run 1 1": impl.ScriptLine, "run 50001": impl.ScriptLine, "input 8 1": impl.ScriptLine, "restart nobody a": impl.ScriptLine,
	} {
		wantScriptAt(t, x, text+line+"\n", code, 301)
		wantScriptAt(t, x, text+line+"\nrun 1\n", code, 301)
		wantScriptAt(t, x, text+line+"\nx\nrestart nobody\n", code, 301)
	}
	wantScriptAt(t, x, text+text, impl.ScriptMany, 301)
	wantScriptAt(t, x, withLine(text, 300, "x")+"run 1\n", impl.ScriptLine, 300)
	wantScriptAt(t, x, withLine(text, 300, "restart nobody")+"x\n", impl.ScriptName, 300)
	wantScriptAt(t, x, text+"run 1\nx\n", impl.ScriptMany, 301)
}

func TestScriptIsRefusedAtItsFirstWrongLine(t *testing.T) {
	x := rightTables()
	wrong := map[string]int{"": impl.ScriptLine, "x": impl.ScriptLine, "run 50001": impl.ScriptLine, "input 8 0": impl.ScriptLine, "restart a a": impl.ScriptLine, "restart b": impl.ScriptName, "restart ": impl.ScriptName}
	right := []string{"run 0", "input 7 0", "restart logwrite", "run 50000", "input 0 4294967295"}
	for at := range right {
		for first, code := range wrong {
			wantScriptAt(t, x, withLine(textOf(right), at+1, first), code, at+1)
			wantScriptAt(t, x, behindLine(textOf(right), at, first), code, at+1)
			for second := range wrong {
				for behind := at + 1; behind < len(right); behind++ {
					wantScriptAt(t, x, withLine(withLine(textOf(right), behind+1, second), at+1, first), code, at+1)
				}
			}
		}
	}
}

func TestScriptOfTablesThatAreNotSound(t *testing.T) {
	cmds, full := fullScript()
	for what, x := range wrongTables() {
		for _, text := range []string{"", "run 5\n", "input 0 1\n", "restart a\n", "restart nobody\n", "x\n", "\n", "run 5", full, full + "run 1\n", strings.Repeat("\n", 601), strings.Repeat("x", 30000)} {
			wantScriptAt(t, x, text, impl.ScriptTables, 0)
		}
		for _, list := range [][]impl.Cmd{nil, {}, {runCmd(5)}, {inputCmd(0, 1)}, {restartCmd(0)}, {restartCmd(6)}, cmds, append(slices.Clone(cmds), runCmd(1))} {
			if text, ok := impl.PrintScript(x, list); text != "" || ok {
				t.Errorf("%s: %v and %q", what, ok, shortText(text))
			}
		}
	}
	for _, maker := range tableMakers() {
		x := maker()
		for _, number := range numbersIn(&x) {
			was := *number
			for _, n := range append(oddInts(), was-4, was-1, was+1, was+4) {
				*number = n
				wantScript(t, x, "run 5\nrestart a\n")
				text, ok := printByHand(x, []impl.Cmd{runCmd(5)})
				wantScriptOf(t, x, []impl.Cmd{runCmd(5)}, text, ok)
			}
			*number = was
		}
	}
}

func TestPrintScriptByRanges(t *testing.T) {
	for _, maker := range scriptMakers() {
		x := maker()
		last := len(x.Parts) - 1
		for _, n := range append(oddInts(), -50000, -2, -1, 0, 1, last, last+1, 6, 7, 8, 300, 49999, 50000, 50001, 50002) {
			if isBetween(n, 0, 50000) {
				wantScriptOf(t, x, []impl.Cmd{runCmd(n)}, "run "+strconv.Itoa(n)+"\n", true)
			} else {
				wantNoScript(t, x, runCmd(n))
			}
			if isBetween(n, 0, 7) {
				wantScriptOf(t, x, []impl.Cmd{inputCmd(n, 5)}, "input "+strconv.Itoa(n)+" 5\n", true)
			} else {
				wantNoScript(t, x, inputCmd(n, 5))
			}
			if isBetween(n, 0, last) {
				wantScriptOf(t, x, []impl.Cmd{restartCmd(n)}, "restart "+x.Parts[n].Name+"\n", true)
			} else {
				wantNoScript(t, x, restartCmd(n))
			}
		}
		for _, w := range []uint32{0, 1, 1 << 31, math.MaxUint32 - 1, math.MaxUint32} {
			wantScriptOf(t, x, []impl.Cmd{inputCmd(7, w)}, "input 7 "+strconv.FormatUint(uint64(w), 10)+"\n", true)
		}
		for _, kind := range append(oddInts(), -300, -3, -2, -1, 3, 4, 5, 255) {
			for _, at := range []int{0, 1, 5, 50000} {
				wantNoScript(t, x, impl.Cmd{Kind: kind, At: at})
				wantNoScript(t, x, impl.Cmd{Kind: kind, At: at, Word: 1})
			}
		}
		for _, w := range []uint32{1, 2, 1 << 16, 1 << 31, math.MaxUint32} {
			for _, at := range []int{0, last} {
				wantNoScript(t, x, impl.Cmd{Kind: impl.CmdRun, At: at, Word: w})
				wantNoScript(t, x, impl.Cmd{Kind: impl.CmdRestart, At: at, Word: w})
			}
		}
	}
}

// One command without a text takes the text of all.
func TestPrintScriptWithOneWrongCommand(t *testing.T) {
	x := rightTables()
	cmds, _ := fullScript()
	for _, wrong := range []impl.Cmd{runCmd(-1), runCmd(50001), inputCmd(8, 0), inputCmd(-1, 0), restartCmd(3), restartCmd(-1), {Kind: 3}, {Kind: -1}, {Word: 1}, {Kind: 2, Word: 1}} {
		for _, at := range []int{0, 1, 150, 298, 299} {
			list := slices.Clone(cmds)
			list[at] = wrong
			wantNoScript(t, x, list...)
		}
		wantNoScript(t, x, wrong)
		wantNoScript(t, x, wrong, runCmd(1))
		wantNoScript(t, x, runCmd(1), wrong)
	}
}

// cmdOfAllSorts is mostly one that has a text.
func cmdOfAllSorts(chance *rand.Rand, x impl.Tables) impl.Cmd {
	at := []int{0, 1, 7, 8, 50000, 50001, -1, len(x.Parts) - 1, len(x.Parts), chance.Intn(50001)}[chance.Intn(10)]
	word := []uint32{0, 1, math.MaxUint32, chance.Uint32()}[chance.Intn(4)]
	switch chance.Intn(12) {
	case 0, 1, 2:
		return runCmd(chance.Intn(50001))
	case 3, 4, 5:
		return inputCmd(chance.Intn(8), word)
	case 6, 7, 8, 9, 10:
		return restartCmd(chance.Intn(len(x.Parts)))
	}
	return impl.Cmd{Kind: chance.Intn(5) - 1, At: at, Word: word}
}

// Promise 21 over drawn tables and commands, and over the texts of these with mistakes.
func TestScriptsOfDrawnCommands(t *testing.T) {
	chance := rand.New(rand.NewSource(2101))
	codes, texts := map[int]int{}, map[bool]int{}
	for range 3000 {
		x, cmds := drawnTables(chance), []impl.Cmd{}
		for range chance.Intn(9) {
			cmds = append(cmds, cmdOfAllSorts(chance, x))
		}
		text, ok := printByHand(x, cmds)
		wantScriptOf(t, x, cmds, text, ok)
		texts[ok]++
		if !ok || text == "" {
			continue
		}
		wantCmdsOf(t, x, text, cmds...)
		for mistakes := 1 + chance.Intn(3); mistakes > 0 && text != ""; mistakes-- {
			text = mistyped(chance, text)
			codes[wantScript(t, x, text)]++
		}
		disturb(chance, &x)
		codes[wantScript(t, x, text)]++
		text, ok = printByHand(x, cmds)
		wantScriptOf(t, x, cmds, text, ok)
		if t.Failed() {
			return
		}
	}
	for _, code := range []int{impl.ScriptOk, impl.ScriptLine, impl.ScriptName, impl.ScriptTables} {
		if codes[code] < 50 {
			t.Errorf("too few of code %d: %v", code, codes)
		}
	}
	if texts[true] < 500 || texts[false] < 500 {
		t.Error(texts)
	}
}

// Promise 26: every text is answered.
func TestScriptOfAnyTexts(t *testing.T) {
	chance := rand.New(rand.NewSource(2102))
	pieces := []string{"run ", "input ", "restart ", "run", "input", "restart", "a", "net", "0", "1", "7", "50000", "4294967295", "-1", " ", " ", "\n", "\n", "\n", "\x00", "\xff", "é"}
	x := rightTables()
	for range 6000 {
		text := ""
		for range chance.Intn(12) {
			text += pieces[chance.Intn(len(pieces))]
		}
		bytes := make([]byte, chance.Intn(40))
		for at := range bytes {
			bytes[at] = byte(chance.Intn(256))
		}
		for _, one := range []string{text, text + "\n", string(bytes), string(bytes) + "\n", "run 5\n" + string(bytes) + "\n", "restart " + string(bytes) + "\n"} {
			wantScript(t, x, one)
		}
	}
}

// Promise 26: nothing that is handed in is written into, nor is the room behind it, and that room is not looked at.
func TestScriptsWriteIntoNothing(t *testing.T) {
	chance := rand.New(rand.NewSource(2103))
	for _, x := range append(tablesOfAllSorts(2104), nameTables()) {
		cmds := []impl.Cmd{runCmd(5), restartCmd(0), inputCmd(7, 9)}
		for range chance.Intn(4) {
			cmds = append(cmds, runCmd(chance.Intn(50001)))
		}
		if chance.Intn(3) == 0 {
			cmds = append(cmds, impl.Cmd{Kind: 3})
		}
		text := "run 5\ninput 7 9\n"
		if len(x.Parts) > 0 {
			text += "restart " + x.Parts[len(x.Parts)-1].Name + "\n"
		}
		given, told := roomyTables(x)
		list, whole := roomed(cmds, runCmd(77))
		before, beforeCmds := told(), slices.Clone(whole)
		gotCmds, code, line := impl.ParseScript(given, text)
		gotText, ok := impl.PrintScript(given, list)
		// The name of the row behind the last one is nobody's.
		_, behind, _ := impl.ParseScript(given, "restart behind\n")
		if told() != before || !slices.Equal(whole, beforeCmds) {
			t.Fatalf("%s\nbecame\n%s, or %v became %v", before, told(), beforeCmds, whole)
		}
		wantCmds, wantCode, wantLine := scriptByHand(x, text)
		wantText, wantOk := printByHand(x, cmds)
		if !slices.Equal(gotCmds, wantCmds) || code != wantCode || line != wantLine || gotText != wantText || ok != wantOk || behind == impl.ScriptOk {
			t.Fatalf("what lies behind a list was looked at: %+v", x)
		}
	}
}

// The commands of an answer are its own.
func TestCommandsOfAScriptAreItsOwn(t *testing.T) {
	cmds, text := fullScript()
	x := rightTables()
	for _, one := range []string{text, "", "run 5\n", "restart a\nrun 7\n", "x\n", "run 5", text + "run 1\n"} {
		want, code, line := scriptByHand(x, one)
		first, _, _ := impl.ParseScript(x, one)
		second, _, _ := impl.ParseScript(x, one)
		scribbleAll(first, impl.Cmd{Kind: 7, At: 7, Word: 7})
		third, gotCode, gotLine := impl.ParseScript(x, one)
		if !slices.Equal(second, want) || !slices.Equal(third, want) || gotCode != code || gotLine != line {
			t.Errorf("two answers share memory, or the text is read in another way the next time: %q", shortText(one))
		}
	}
	if !sameTables(x, rightTables()) {
		t.Errorf("%+v", x)
	}
	wantScriptOf(t, x, cmds, text, true)
}

// What is read from a text is done by Play as the commands are.
func TestScriptsArePlayed(t *testing.T) {
	x := flowTables(3, queued(0, 1, 2))
	cmds, code, _ := impl.ParseScript(x, "run 30\ninput 0 9\nrestart b\nrun 100\ninput 7 1\nrun 50000\n")
	if code != impl.ScriptOk {
		t.Fatal(code)
	}
	told, ok := impl.Play(x, plainImages(x), cmds)
	if !ok || told.Clock != 130 || !slices.Equal(told.Codes, []int{impl.PlayDone, impl.PlayDone, impl.PlayDone, impl.PlayDone, impl.PlayBad, impl.PlayClock}) {
		t.Error(ok, told.Clock, told.Codes)
	}
}
