package tests

import (
	"fmt"
	"math"
	"math/rand"
	"regexp"
	"slices"
	"strconv"
	"strings"
	"testing"

	"loop.example/g00076/impl"
)

func opNameByHand(op int) string {
	for _, row := range opRows() {
		if row.op == op {
			return row.name
		}
	}
	return "-"
}

func eventTextByHand(e impl.Event) string {
	return fmt.Sprintf("%d %d %08x %s %d %d %08x", e.At, e.Cost, e.PC, opNameByHand(e.Op), e.Fault, e.Cause, e.Sum)
}

// eventForm is made once, as every text is held against it.
var eventForm = regexp.MustCompile(`\A(` + numForm + `) (` + numForm + `) ([0-9a-f]{8}) (-|[a-z]+) (` + numForm + `) (` + numForm + `) ([0-9a-f]{8})\z`)

// eventOfByHand is for whatever text.
func eventOfByHand(s string) (impl.Event, bool) {
	found := eventForm.FindStringSubmatch(s)
	if found == nil {
		return impl.Event{}, false
	}
	numbers := [8]int{}
	for _, place := range []int{1, 2, 5, 6} {
		n, err := strconv.Atoi(found[place])
		if err != nil || !isBetween(n, -1000000, 1000000) {
			return impl.Event{}, false
		}
		numbers[place] = n
	}
	pc, _ := strconv.ParseUint(found[3], 16, 32)
	sum, _ := strconv.ParseUint(found[7], 16, 32)
	op := slices.IndexFunc(opRows(), func(row opRow) bool { return row.name == found[4] })
	if op < 0 && found[4] != "-" {
		return impl.Event{}, false
	}
	return impl.Event{At: numbers[1], Cost: numbers[2], PC: uint32(pc), Op: op, Fault: numbers[5], Cause: numbers[6], Sum: uint32(sum)}, true
}

// wantEventOf holds a text against the model; one that is taken must be its event's. It tells whether it is taken.
func wantEventOf(t *testing.T, s string) bool {
	t.Helper()
	e, is := impl.EventOf(s)
	if want, wantIs := eventOfByHand(s); e != want || is != wantIs {
		t.Errorf("EventOf(%.300q) is %+v and %v, not %+v and %v", s, e, is, want, wantIs)
	}
	if is && impl.EventText(e) != s {
		t.Errorf("%q is read as %+v, whose text is %q", s, e, impl.EventText(e))
	}
	return is
}

func wantNoEvent(t *testing.T, s string) {
	t.Helper()
	if e, is := impl.EventOf(s); is || e != (impl.Event{}) {
		t.Errorf("EventOf(%.300q) is %+v and %v", s, e, is)
	}
	wantEventOf(t, s)
}

// wantEventText asks for a text and for what comes back from it, which has an Op of -1 where the event's is none.
func wantEventText(t *testing.T, e impl.Event, want string) {
	t.Helper()
	if got := impl.EventText(e); got != want || eventTextByHand(e) != want {
		t.Errorf("EventText(%+v) is %q, and by hand %q, not %q", e, got, eventTextByHand(e), want)
	}
	back, is := impl.EventOf(want)
	if !isBetween(e.Op, 0, 32) {
		e.Op = -1
	}
	near := true
	for _, n := range []int{e.At, e.Cost, e.Fault, e.Cause} {
		near = near && isBetween(n, -1000000, 1000000)
	}
	if !near {
		e = impl.Event{}
	}
	if is != near || back != e {
		t.Errorf("EventOf(%q) is %+v and %v, not %+v and %v", want, back, is, e, near)
	}
}

func TestEventTextByNumbers(t *testing.T) {
	wantEventText(t, impl.Event{}, "0 0 00000000 nop 0 0 00000000")
	wantEventText(t, impl.Event{At: 16, Cost: 8, Op: impl.OpAddi, Sum: 255}, "16 8 00000000 addi 0 0 000000ff")
	wantEventText(t, impl.Event{At: 1, Cost: 2, PC: 3, Op: impl.OpTrap, Fault: 4, Cause: 5, Sum: 6}, "1 2 00000003 trap 4 5 00000006")
	wantEventText(t, impl.Event{At: 50000, Cost: 420, PC: 0x89abcdef, Op: -1, Fault: 9, Cause: 33, Sum: 0xfedcba98}, "50000 420 89abcdef - 9 33 fedcba98")
	wantEventText(t, impl.Event{At: -1, Cost: -20, PC: math.MaxUint32, Op: impl.OpYield, Fault: -300, Cause: -1000000, Sum: math.MaxUint32}, "-1 -20 ffffffff yield -300 -1000000 ffffffff")
	wantEventText(t, impl.Event{At: math.MinInt, Cost: math.MaxInt, PC: 1 << 31, Op: 33, Fault: math.MinInt, Cause: math.MaxInt, Sum: 1}, "-9223372036854775808 9223372036854775807 80000000 - -9223372036854775808 9223372036854775807 00000001")
}

func TestEventTextOfEachOp(t *testing.T) {
	for _, row := range opRows() {
		wantEventText(t, impl.Event{At: 7, Cost: 1, PC: 64, Op: row.op, Sum: 9}, "7 1 00000040 "+row.name+" 0 0 00000009")
	}
	for _, op := range append(oddInts(), noOps()...) {
		wantEventText(t, impl.Event{At: 7, Cost: 1, PC: 64, Op: op, Sum: 9}, "7 1 00000040 - 0 0 00000009")
	}
}

// Each number and each word by itself, so that none stands in the place of another.
func TestEventTextOfEachField(t *testing.T) {
	for _, n := range append(oddInts(), noOps()...) {
		wantEventText(t, impl.Event{At: n}, fmt.Sprintf("%d 0 00000000 nop 0 0 00000000", n))
		wantEventText(t, impl.Event{Cost: n}, fmt.Sprintf("0 %d 00000000 nop 0 0 00000000", n))
		wantEventText(t, impl.Event{Fault: n}, fmt.Sprintf("0 0 00000000 nop %d 0 00000000", n))
		wantEventText(t, impl.Event{Cause: n}, fmt.Sprintf("0 0 00000000 nop 0 %d 00000000", n))
	}
	for _, w := range someWords() {
		wantEventText(t, impl.Event{PC: w}, fmt.Sprintf("0 0 %08x nop 0 0 00000000", w))
		wantEventText(t, impl.Event{Sum: w}, fmt.Sprintf("0 0 00000000 nop 0 0 %08x", w))
	}
}

// rightEventText has words of which no two are alike.
const rightEventText = "12 -3 0000a0b4 sltu 5 66 90abcdef"

// withWord has another word in the place of one; places count from 0 on.
func withWord(text string, place int, word string) string {
	words := strings.Split(text, " ")
	words[place] = word
	return strings.Join(words, " ")
}

func TestEventOfByNumbers(t *testing.T) {
	for _, place := range []int{0, 1, 4, 5} {
		for _, n := range []int{-1000000, -999999, -10, -1, 0, 1, 9, 10, 100, 50000, 999999, 1000000} {
			if !wantEventOf(t, withWord(rightEventText, place, strconv.Itoa(n))) {
				t.Errorf("%d is refused at place %d", n, place)
			}
		}
		for _, n := range append(oddInts(), -1000001, 1000001, -1000002, 1000002, 1000010, 10000000, -10000000, 4294967295, 4294967297) {
			if !isBetween(n, -1000000, 1000000) {
				wantNoEvent(t, withWord(rightEventText, place, strconv.Itoa(n)))
			}
		}
		for _, word := range append(noNumbers(), numbersThatAreNone()...) {
			wantNoEvent(t, withWord(rightEventText, place, word))
		}
		wantNoEvent(t, withWord(rightEventText, place, "0000a0b4"))
		wantNoEvent(t, withWord(rightEventText, place, "nop"))
	}
	if e, is := impl.EventOf(rightEventText); !is || e != (impl.Event{At: 12, Cost: -3, PC: 0xa0b4, Op: impl.OpSltu, Fault: 5, Cause: 66, Sum: 0x90abcdef}) {
		t.Error(e, is)
	}
}

func TestEventOfByWords(t *testing.T) {
	for _, place := range []int{2, 6} {
		for _, word := range []string{"00000000", "ffffffff", "01234567", "89abcdef", "a0000000", "0000000f", "12345678"} {
			if !wantEventOf(t, withWord(rightEventText, place, word)) {
				t.Errorf("%q is refused at place %d", word, place)
			}
		}
		for _, word := range []string{"", "0", "a", "ff", "0000000", "000000000", "fffffff", "fffffffff", "0000000g", "g0000000", "FFFFFFFF", "0000000A", "A0000000", "89ABCDEF", "89abcdeF", "0x000000", "0x00000000", "-0000001", "+0000001", "-", "0000000\n", "0000 000", " 0000000", "0000000 ", "0000000\x00", "\xff0000000", "0000000\u0661", "００００００００", strings.Repeat("0", 16), strings.Repeat("f", 400)} {
			wantNoEvent(t, withWord(rightEventText, place, word))
		}
	}
}

func TestEventOfByOps(t *testing.T) {
	for _, row := range opRows() {
		if e, is := impl.EventOf(withWord(rightEventText, 3, row.name)); !is || e.Op != row.op {
			t.Error(row.name, e, is)
		}
		for _, name := range []string{strings.ToUpper(row.name), row.name + "x", "x" + row.name, row.name + "-", "-" + row.name, row.name + "\t", row.name[1:], strconv.Itoa(row.op), row.name + row.name} {
			if opNameByHand(impl.OpOf(name)) != name {
				wantNoEvent(t, withWord(rightEventText, 3, name))
			}
		}
	}
	if e, is := impl.EventOf(withWord(rightEventText, 3, "-")); !is || e.Op != -1 {
		t.Error(e, is)
	}
	for _, name := range []string{"", "--", "-1", "+", "_", "—", "−", "none", "0", "33", ".word", "nops", "a", "\x00", "- ", " -", "-\n"} {
		wantNoEvent(t, withWord(rightEventText, 3, name))
	}
}

func TestEventOfByCountOfWords(t *testing.T) {
	words := strings.Split(rightEventText, " ")
	for at := range words {
		wantNoEvent(t, strings.Join(slices.Delete(slices.Clone(words), at, at+1), " "))
		wantNoEvent(t, strings.Join(words[:at], " "))
		wantNoEvent(t, strings.Join(words[at+1:], " "))
		for _, more := range append(slices.Clone(words), "", "0", "-", "nop", "00000000") {
			wantNoEvent(t, strings.Join(slices.Insert(slices.Clone(words), at, more), " "))
		}
		for other := range words {
			changed := slices.Clone(words)
			changed[at], changed[other] = changed[other], changed[at]
			wantEventOf(t, strings.Join(changed, " "))
		}
	}
	for _, more := range []string{" ", "  ", " 0", " nop", " 00000000", "\n", "\r\n", "\t", "\x00", " " + rightEventText, "\n" + rightEventText} {
		wantNoEvent(t, rightEventText+more)
	}
	for _, ahead := range []string{" ", "  ", "0 ", "\n", "\t", "\x00", "\ufeff"} {
		wantNoEvent(t, ahead+rightEventText)
	}
	for _, text := range []string{"", " ", "      ", "       ", "\n", "-", "nop", "- - - - - - -", "0 0 0 0 0 0 0", strings.Repeat(" ", 100000), strings.Repeat("0 ", 100000)} {
		wantNoEvent(t, text)
	}
	wantNoEvent(t, strings.ReplaceAll(rightEventText, " ", "\t"))
	wantNoEvent(t, strings.ReplaceAll(rightEventText, " ", "  "))
	wantNoEvent(t, strings.ReplaceAll(rightEventText, " ", ""))
	wantNoEvent(t, strings.ReplaceAll(rightEventText, " ", "\n"))
}

// Each byte of some texts put in, taken out and changed for each other one.
func TestEventOfByEachByte(t *testing.T) {
	taken := 0
	for _, text := range []string{rightEventText, "0 0 00000000 - 0 0 00000000", "1000000 -1000000 ffffffff nop 999999 -999999 12345678"} {
		for at := range len(text) + 1 {
			for n := range 256 {
				one := string([]byte{byte(n)})
				taken += int(oneByHand(wantEventOf(t, text[:at]+one+text[at:])))
				if at < len(text) {
					taken += int(oneByHand(wantEventOf(t, text[:at]+one+text[at+1:])))
				}
			}
			if at < len(text) {
				wantEventOf(t, text[:at]+text[at+1:])
			}
			wantEventOf(t, text[:at])
			wantEventOf(t, text[at:])
		}
	}
	if taken < 500 {
		t.Error("too few were taken:", taken)
	}
}

func TestEventTextsOfDrawnEvents(t *testing.T) {
	chance := rand.New(rand.NewSource(2204))
	number := func() int {
		return []int{0, 1, -1, chance.Intn(51000), 1000000 + chance.Intn(2), -1000000 - chance.Intn(2), chance.Intn(10), int(chance.Uint64())}[chance.Intn(8)]
	}
	for range 4000 {
		e := impl.Event{At: number(), Cost: number(), PC: chance.Uint32() >> chance.Intn(32), Op: chance.Intn(36) - 2, Fault: number(), Cause: number(), Sum: chance.Uint32() >> chance.Intn(32)}
		wantEventText(t, e, eventTextByHand(e))
	}
	for _, change := range eventChanges() {
		for _, e := range someEvents(40) {
			change.turn(&e)
			wantEventText(t, e, eventTextByHand(e))
		}
	}
}

// Promise 26: every text is answered.
func TestEventOfAnyTexts(t *testing.T) {
	chance := rand.New(rand.NewSource(2205))
	pieces := []string{"0", "1", "-1", "1000000", "-", "nop", "trap", "00000000", "0000000f", "ffffffff", " ", " ", " ", " ", " ", " ", "\n", "\x00", "\xff", "é"}
	for range 6000 {
		text := ""
		for range chance.Intn(16) {
			text += pieces[chance.Intn(len(pieces))]
		}
		wantEventOf(t, text)
		words := []string{}
		for range 6 + chance.Intn(3) {
			words = append(words, pieces[chance.Intn(10)])
		}
		wantEventOf(t, strings.Join(words, " "))
		bytes := make([]byte, chance.Intn(50))
		for at := range bytes {
			bytes[at] = byte(chance.Intn(256))
		}
		wantEventOf(t, string(bytes))
	}
}
