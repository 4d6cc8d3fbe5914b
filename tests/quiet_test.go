package tests

import (
	"bytes"
	"fmt"
	"math/rand"
	"runtime"
	"slices"
	"sync"
	"testing"
	"time"

	"loop.example/g00076/impl"
)

// wantQuiet asks Quiet both ways round.
func wantQuiet(t *testing.T, what string, x impl.Tables, p int, a [][][]byte, m []impl.Cmd, b [][][]byte, n []impl.Cmd, want int) {
	t.Helper()
	if got := impl.Quiet(x, p, a, m, b, n); got != want {
		t.Errorf("%s: Quiet of %d is %d, not %d", what, p, got, want)
	}
	if got := impl.Quiet(x, p, b, n, a, m); got != want {
		t.Errorf("%s: Quiet of %d is %d the other way round, not %d", what, p, got, want)
	}
}

// firstByHand is for lists of any length.
func firstByHand(a []impl.Event, b []impl.Event) int {
	at := 0
	for ; at < len(a) || at < len(b); at++ {
		if at == len(a) || at == len(b) || a[at] != b[at] {
			return at
		}
	}
	return -1
}

// quietByHand is for a partition of systems that are right; it plays both by the model.
func quietByHand(x impl.Tables, p int, a [][][]byte, m []impl.Cmd, b [][][]byte, n []impl.Cmd) int {
	one, other := playByHand(x, a, m), playByHand(x, b, n)
	if at := firstByHand(one.Traces[p], other.Traces[p]); at >= 0 {
		return at
	}
	if !samePart(one.Parts[p], other.Parts[p]) {
		return -3
	}
	return -1
}

// differing names what two states differ in.
func differing(a impl.PartState, b impl.PartState) []string {
	names := []string{}
	for _, row := range []struct {
		name string
		same bool
	}{
		{"Regs", slices.Equal(a.Guest.Regs, b.Guest.Regs)}, {"PC", a.Guest.PC == b.Guest.PC}, {"Ram", slices.EqualFunc(a.Guest.Ram, b.Guest.Ram, bytes.Equal)},
		{"Virt", a.Virt == b.Virt}, {"Health", a.Health == b.Health}, {"Cache", sameCache(a.Cache, b.Cache)}, {"Tlb", sameTlb(a.Tlb, b.Tlb)},
		{"Next", a.Next == b.Next}, {"Idle", a.Idle == b.Idle}, {"Boot", slices.EqualFunc(a.Boot, b.Boot, bytes.Equal)},
		{"Outs", slices.EqualFunc(a.Outs, b.Outs, sameOut)}, {"Ins", slices.EqualFunc(a.Ins, b.Ins, sameIn)}, {"Devs", slices.EqualFunc(a.Devs, b.Devs, sameDev)},
	} {
		if !row.same {
			names = append(names, row.name)
		}
	}
	return names
}

// endTables have two partitions that talk both ways; the word ahead of a's Entry is a's too, and device 1 is a's.
func endTables() impl.Tables {
	x := flowTables(2, queued(0, 1, 2), sampled(1, 0), queued(1, 0, 2), sampled(0, 1))
	x.Parts[0].Entry = 4
	return x
}

// restingWith does these lines once in each slot, and then rests with PC at its Entry again: the yield lies ahead of it.
func restingWith(t *testing.T, x impl.Tables, lines ...string) [][]byte {
	t.Helper()
	image := imageWith(t, x, 0, append(slices.Clone(lines), fmt.Sprint("jal r0 ", -2-len(lines)))...)
	w, _ := impl.Encode(impl.Instr{Op: impl.OpYield})
	layWord(x.Parts[0].Windows, impl.Guest{Ram: image}, 0, w)
	return image
}

// endCase are two systems whose first partition does the same steps in both, and differs in the end in what is named.
type endCase struct {
	what  string
	x     impl.Tables
	a, b  [][][]byte
	m, n  []impl.Cmd
	names []string
}

// restartCases end with a restart by hand of a guest that rests, on one side alone.
func restartCases(t *testing.T) []endCase {
	t.Helper()
	x := endTables()
	list := []endCase{}
	add := func(what string, x impl.Tables, image [][]byte, names ...string) {
		images := [][][]byte{image, turning(x, 1)}
		list = append(list, endCase{what, x, images, images, []impl.Cmd{runCmd(x.Major)}, []impl.Cmd{runCmd(x.Major), restartCmd(0)}, names})
	}
	add("a register that was written", x, restingWith(t, x, "addi r1 r1 1"), "Regs")
	add("the last register", x, restingWith(t, x, "addi r15 r15 1"), "Regs")
	add("where it rests", x, imageWith(t, x, 0, "yield"), "PC")
	add("memory that was written", x, restingWith(t, x, "sw r0 r0 48"), "Ram")
	add("one byte that was written", x, restingWith(t, x, "sb r0 r0 63"), "Ram")
	add("a virtual register", x, restingWith(t, x, "addi r1 r0 9", "csrw r1 4", "addi r1 r0 0"), "Virt")
	add("a timer that is set", x, restingWith(t, x, "addi r1 r0 1", "csrw r1 5", "addi r1 r0 0"), "Virt")
	add("the last fault", withPolicy(x, 0, impl.Policy{Kind: impl.PolicySkip}), restingWith(t, x, "trap 1"), "Health")
	add("what was queued", x, restingWith(t, x, "send r0 r0 0"), "Outs")
	add("what was shown", x, restingWith(t, x, "send r0 r0 3"), "Outs")
	add("one that is at work", x, imageWith(t, x, 0, "again:", "addi r1 r1 1", "sw r1 r0 48", "jal r0 again"), "Regs", "PC", "Ram", "Idle")
	return list
}

// slotCases are cut ahead of the first step of a slot.
func slotCases(t *testing.T) []endCase {
	t.Helper()
	x := endTables()
	rest := [][][]byte{restingWith(t, x, "nop"), turning(x, 1)}
	halt := [][][]byte{imageWith(t, x, 0, "trap 1"), turning(x, 1)}
	more := func(cmds ...impl.Cmd) []impl.Cmd { return cmds }
	return []endCase{
		{"a slot has begun", x, rest, rest, more(runCmd(1)), more(runCmd(0)), []string{"Next", "Idle"}},
		{"another slot has begun", x, rest, rest, more(runCmd(x.Major)), more(runCmd(x.Major + 1)), []string{"Cache", "Tlb", "Next", "Idle"}},
		{"a later slot of one that is halted", x, halt, halt, more(runCmd(x.Major + 1)), more(runCmd(2*x.Major + 1)), []string{"Next"}},
		{"a restart within the pad", x, rest, rest, more(runCmd(1)), more(runCmd(1), restartCmd(0)), []string{"Idle"}},
		{"a restart of one that is halted", x, halt, halt, more(runCmd(x.Major), runCmd(1)), more(runCmd(x.Major), restartCmd(0), runCmd(1)), []string{"Health"}},
		{"an input that is not seen yet", x, rest, rest, more(runCmd(7)), more(runCmd(7), inputCmd(1, 5)), []string{"Devs"}},
		{"another input that is not seen yet", x, rest, rest, more(runCmd(7), inputCmd(1, 6)), more(runCmd(7), inputCmd(1, 5)), []string{"Devs"}},
		{"an input behind all", x, rest, rest, more(runCmd(50000)), more(runCmd(50000), inputCmd(1, 0)), []string{"Devs"}},
		{"an input that is seen, and that nobody has read", x, rest, rest, more(inputCmd(1, 6), runCmd(1)), more(inputCmd(1, 5), runCmd(1)), []string{"Devs"}},
		{"two inputs that nobody has read", x, rest, rest, more(inputCmd(1, 5), inputCmd(1, 5), runCmd(x.Major)), more(inputCmd(1, 5), runCmd(x.Major)), []string{"Devs"}},
		{"an input that waits as an interrupt", x, rest, rest, more(inputCmd(1, 5), runCmd(x.Major)), more(runCmd(x.Major)), []string{"Virt", "Devs"}},
		{"an input ahead of the slot or in it", x, rest, rest, more(inputCmd(1, 5), runCmd(x.Major)), more(runCmd(1), inputCmd(1, 5), runCmd(x.Major-1)), []string{"Virt", "Devs"}},
	}
}

// otherCases differ in what the images hold, a's own or b's.
func otherCases(t *testing.T) []endCase {
	t.Helper()
	x := endTables()
	rest, writes := restingWith(t, x, "nop"), restingWith(t, x, "sw r0 r0 48")
	turned := func(image [][]byte, at int) [][]byte { return turnedImages([][][]byte{image}, 0, 0, at, 64)[0] }
	sends := restingWith(t, x, "send r0 r0 0")
	shows := func(word int, channel int) [][]byte {
		return imageWith(t, x, 1, fmt.Sprint("addi r1 r0 ", word), fmt.Sprint("send r2 r1 ", channel), "yield")
	}
	still, reads := turning(x, 1), imageWith(t, x, 1, "again:", "recv r1 r2 0", "jal r0 again")
	long := []impl.Cmd{runCmd(x.Major + 1)}
	longer := []impl.Cmd{runCmd(2*x.Major + 1)}
	run := func(what string, a [][][]byte, b [][][]byte, cmds []impl.Cmd, names ...string) endCase {
		return endCase{what, x, a, b, cmds, cmds, names}
	}
	return []endCase{
		run("memory that no step reads", [][][]byte{rest, still}, [][][]byte{turned(rest, 60), still}, long, "Ram", "Boot"),
		run("the last byte of memory", [][][]byte{rest, still}, [][][]byte{turned(rest, 63), still}, nil, "Ram", "Boot"),
		run("memory that was written over", [][][]byte{writes, still}, [][][]byte{turned(writes, 48), still}, []impl.Cmd{runCmd(x.Major)}, "Boot"),
		run("a word that is shown to it", [][][]byte{rest, shows(5, 1)}, [][][]byte{rest, still}, long, "Ins"),
		run("another word that is shown to it", [][][]byte{rest, shows(5, 1)}, [][][]byte{rest, shows(6, 1)}, long, "Ins"),
		run("a word that is queued for it", [][][]byte{rest, shows(5, 2)}, [][][]byte{rest, still}, long, "Ins"),
		run("another word that is queued for it", [][][]byte{rest, shows(5, 2)}, [][][]byte{rest, shows(6, 2)}, long, "Ins"),
		run("what is held at the other end", [][][]byte{sends, reads}, [][][]byte{sends, still}, longer, "Outs"),
	}
}

// nearCases end alike but for what is near. A code of 0 with the word 224 and a code of 1 with none fold to one Sum, so no step tells which of two places was read; the registers are alike again behind it, and a restart clears the interrupt.
func nearCases(t *testing.T) []endCase {
	t.Helper()
	list := []endCase{}
	for _, row := range []struct {
		what      string
		ways, tlb int
		names     []string
	}{
		{"a line that is near", 4, 1, []string{"Cache"}},
		{"a page that is known", 1, 2, []string{"Tlb"}},
		{"a line and its page", 4, 2, []string{"Cache", "Tlb"}},
	} {
		x := flowTables(2)
		x.Shape.Ways, x.Tlb = row.ways, row.tlb
		x.Parts[0].Windows = append(x.Parts[0].Windows, win(256, 256, impl.KindRead))
		images := [][][]byte{imageWith(t, x, 0, "rdev r1 r2 1", "lb r0 r2 256", "recv r1 r2 5", "yield"), turning(x, 1)}
		cmds := []impl.Cmd{runCmd(x.Major), restartCmd(0)}
		list = append(list, endCase{row.what, x, images, images, cmds, append([]impl.Cmd{inputCmd(1, 224)}, cmds...), row.names})
	}
	return list
}

// endCases are all of them.
func endCases(t *testing.T) []endCase {
	t.Helper()
	return slices.Concat(restartCases(t), slotCases(t), otherCases(t), nearCases(t))
}

// Where the traces are the same and the states differ in anything at all, it is told.
func TestQuietOfWhatDiffersInTheEndOnly(t *testing.T) {
	seen := map[string]int{}
	for _, c := range endCases(t) {
		one, is := impl.Play(c.x, c.a, c.m)
		other, isOther := impl.Play(c.x, c.b, c.n)
		if !is || !isOther || firstByHand(one.Traces[0], other.Traces[0]) != -1 {
			t.Fatalf("%s: the systems are refused, or the steps differ: %v %+v %+v", c.what, is && isOther, one.Traces, other.Traces)
		}
		names := differing(one.Parts[0], other.Parts[0])
		if !slices.Equal(names, c.names) {
			t.Errorf("%s: the states differ in %v, not %v", c.what, names, c.names)
		}
		wantQuiet(t, c.what, c.x, 0, c.a, c.m, c.b, c.n, -3)
		wantSame(t, c.what, c.x, 0, c.a, c.m, c.b, c.n, false)
		for _, name := range names {
			seen[name]++
		}
		wantQuiet(t, c.what, c.x, 0, c.a, c.m, c.a, c.m, -1)
		wantQuiet(t, c.what, c.x, 0, c.b, c.n, c.b, c.n, -1)
	}
	for _, name := range []string{"Regs", "PC", "Ram", "Virt", "Health", "Cache", "Tlb", "Next", "Idle", "Boot", "Outs", "Ins", "Devs"} {
		if seen[name] == 0 {
			t.Error("nothing differs in", name)
		}
	}
}

// The very same arguments twice, whatever they are.
func TestQuietOfOneSystemTwice(t *testing.T) {
	for _, maker := range append(timeMakers(), partTables, crossTables, longTables) {
		x := maker()
		for _, images := range [][][][]byte{plainImages(x), turningAll(x)} {
			for _, cmds := range [][]impl.Cmd{nil, {}, {runCmd(0)}, {runCmd(3 * x.Major)}, {runCmd(x.Major), restartCmd(0), inputCmd(0, 5), runCmd(50000), runCmd(x.Major)}} {
				for p := range x.Parts {
					wantQuiet(t, "the same", x, p, images, cmds, images, cmds, -1)
					wantSame(t, "the same", x, p, images, cmds, images, cmds, true)
				}
				for _, p := range append(oddInts(), -2, -1, len(x.Parts), len(x.Parts)+1, 6) {
					wantQuiet(t, "no partition", x, p, images, cmds, images, cmds, -2)
				}
			}
		}
	}
	x, talk := partTables(), talkingAll(t)
	cmds := []impl.Cmd{inputCmd(0, 5), runCmd(25000), inputCmd(1, 6), restartCmd(0), runCmd(25000), inputCmd(2, 7)}
	for p := range 3 {
		wantQuiet(t, "all cycles", x, p, talk, cmds, talk, cmds, -1)
	}
}

// One system that is refused is enough, by its images or by its commands, also where the traces would differ.
func TestQuietOfSystemsThatAreRefused(t *testing.T) {
	x := partTables()
	images, others, cmds := turningAll(x), plainImages(x), []impl.Cmd{runCmd(700)}
	most := append(slices.Repeat([]impl.Cmd{{Kind: 9}}, 299), runCmd(700))
	tooMany := append(slices.Clone(most), impl.Cmd{Kind: 9})
	for p := range 3 {
		wantQuiet(t, "both are played", x, p, images, cmds, images, most, -1)
		wantQuiet(t, "too many commands", x, p, images, cmds, images, tooMany, -2)
		wantQuiet(t, "too many commands, other images", x, p, images, cmds, others, tooMany, -2)
		wantQuiet(t, "too many commands twice", x, p, images, tooMany, images, tooMany, -2)
		wantQuiet(t, "an image lacks", x, p, images, cmds, images[:2], cmds, -2)
		wantQuiet(t, "an image lacks, and too many commands", x, p, images[:2], cmds, images, tooMany, -2)
		wantQuiet(t, "no image", x, p, nil, cmds, images, cmds, -2)
		wantSame(t, "too many commands", x, p, images, cmds, images, tooMany, false)
		wantSame(t, "too many commands twice", x, p, images, tooMany, images, tooMany, false)
	}
	for _, p := range append(oddInts(), -3, -2, -1, 3, 4, 6) {
		wantQuiet(t, "no partition", x, p, images, cmds, others, cmds, -2)
		wantQuiet(t, "no partition, and refused", x, p, images, cmds, nil, cmds, -2)
	}
}

// What Quiet answers is the place of the step at which the traces part, 0 too, also where one is at its end there.
func TestQuietOfTracesThatDiffer(t *testing.T) {
	x := flowTables(2)
	plain := func(lines ...string) [][][]byte { return [][][]byte{imageWith(t, x, 0, lines...), turning(x, 1)} }
	ten := slices.Repeat([]string{"addi r1 r1 1"}, 10)
	cmds := []impl.Cmd{runCmd(x.Major)}
	for at := range 10 {
		for what, line := range map[string]string{"another op": "xor r1 r1 r2", "another register": "addi r2 r1 1", "a fault": "trap 1", "a rest": "yield"} {
			other := slices.Clone(ten)
			other[at] = line
			wantQuiet(t, what, x, 0, plain(ten...), cmds, plain(other...), cmds, at)
			wantQuiet(t, what, x, 1, plain(ten...), cmds, plain(other...), cmds, -1)
		}
		// Cut behind that many steps: the other one goes on.
		wantQuiet(t, "a run that is cut", x, 0, plain(ten...), []impl.Cmd{runCmd(x.Pad + at)}, plain(ten...), cmds, at)
		wantQuiet(t, "one that rests sooner", x, 0, plain(append(slices.Clone(ten[:at]), "yield", "nop")...), cmds, plain(append(slices.Clone(ten[:at]), "yield", "trap 1")...), cmds, -3)
	}
	// A restart between steps, and an input that is read.
	all := plain("again:", "addi r1 r1 1", "rdev r2 r3 1", "jal r0 again")
	wantQuiet(t, "a restart", x, 0, all, []impl.Cmd{runCmd(x.Pad + 5), runCmd(x.Major)}, all, []impl.Cmd{runCmd(x.Pad + 5), restartCmd(0), runCmd(x.Major)}, 5)
	wantQuiet(t, "an input", x, 0, all, []impl.Cmd{runCmd(x.Major)}, all, []impl.Cmd{inputCmd(1, 5), runCmd(x.Major)}, 1)
	wantQuiet(t, "an input in the next slot", x, 0, all, []impl.Cmd{runCmd(1), runCmd(2 * x.Major)}, all, []impl.Cmd{runCmd(1), inputCmd(1, 5), runCmd(2 * x.Major)}, 22)
	wantQuiet(t, "another input", x, 0, all, []impl.Cmd{inputCmd(1, 6), runCmd(x.Major)}, all, []impl.Cmd{inputCmd(1, 5), runCmd(x.Major)}, 1)
}

// relaying adds up what comes to it, hands it on, and waits where a queue is full, so that whatever reaches it is seen behind it too.
func relaying(t *testing.T, x impl.Tables, p int) [][]byte {
	t.Helper()
	lines := []string{"again:", "addi r1 r1 1"}
	for n, r := range x.Chans {
		if r.To == p {
			lines = append(lines, fmt.Sprint("recv r3 r4 ", n), "add r1 r1 r4")
		}
		if r.From == p {
			lines = append(lines, fmt.Sprint("send r2 r1 ", n), "bne r2 r0 -2")
		}
	}
	return imageWith(t, x, p, append(lines, "jal r0 again")...)
}

// Promise 20, and that no less than what is joined may be: another image of q is seen by p just when q is in Joined of p.
func TestQuietJustOfWhoCannotReach(t *testing.T) {
	for _, chans := range [][]impl.ChanRow{
		nil, {sampled(0, 1)}, {sampled(3, 0)}, {queued(0, 1, 1)}, {queued(2, 0, 2)}, {sampled(0, 1), sampled(1, 2), sampled(2, 3)}, {sampled(3, 2), sampled(2, 1), sampled(1, 0)},
		{queued(0, 1, 1), queued(1, 2, 1)}, {queued(2, 1, 1), queued(1, 0, 2), sampled(0, 3)}, {sampled(0, 1), queued(1, 2, 1), sampled(2, 3)}, {queued(0, 1, 1), sampled(1, 2), queued(2, 3, 1)},
		{sampled(0, 1), sampled(1, 0), sampled(1, 3)}, {queued(0, 1, 1), queued(1, 2, 1), queued(2, 3, 1)}, {queued(3, 2, 1), queued(2, 1, 1), queued(1, 0, 1)},
	} {
		x := flowTables(4, chans...)
		images := [][][]byte{relaying(t, x, 0), relaying(t, x, 1), relaying(t, x, 2), relaying(t, x, 3)}
		cmds := []impl.Cmd{runCmd(40 * x.Major)}
		for q := range 4 {
			others := withImage(images, q, turning(x, q))
			for p := range 4 {
				got := impl.Quiet(x, p, images, cmds, others, cmds)
				reaches := impl.Influence(x, q, p)
				if reaches && got < 0 || !reaches && got != -1 {
					t.Errorf("%+v: another image of %d is seen by %d: %d, though it reaches it: %v", chans, q, p, got, reaches)
				}
				wantSame(t, "another image", x, p, images, cmds, others, cmds, !reaches)
			}
		}
	}
}

// othersFor are another system for p: other images of those that cannot reach it, and other commands of theirs amidst those that matter.
func othersFor(t *testing.T, chance *rand.Rand, x impl.Tables, p int, images [][][]byte, cmds []impl.Cmd) ([][][]byte, []impl.Cmd) {
	t.Helper()
	among, theirs := joinedByHand(x, p), []impl.Cmd{{Kind: 3, At: p}, {Kind: -1}, inputCmd(len(x.Devs), 5), restartCmd(len(x.Parts)), restartCmd(-1)}
	for q := range x.Parts {
		if !slices.Contains(among, q) {
			images = withImage(images, q, drawnMachine(t, chance, x, q))
			theirs = append(theirs, slices.Repeat([]impl.Cmd{restartCmd(q)}, chance.Intn(4))...)
		}
	}
	for dev, owner := range x.Devs {
		if !slices.Contains(among, owner) {
			theirs = append(theirs, slices.Repeat([]impl.Cmd{inputCmd(dev, chance.Uint32())}, chance.Intn(12))...)
		}
	}
	left := cmdsByHand(x, p, cmds)
	for n := range left {
		if left[n].Kind != impl.CmdInput && chance.Intn(2) == 0 {
			left[n].Word = chance.Uint32()
		}
	}
	return images, amidst(chance, left, theirs)
}

// Promise 20: of two systems for which SameFor says yes p sees nothing; and by the model too they are alike.
func TestQuietOfDrawnSystemsThatAreTheSame(t *testing.T) {
	chance := rand.New(rand.NewSource(208))
	differ, steps := 0, 0
	for range 300 {
		x, images := drawnSystem(t, chance)
		cmds := drawnCmds(chance, x, 25, 4*x.Major)
		if len(cmds) > 150 {
			continue
		}
		for p := range x.Parts {
			others, amid := othersFor(t, chance, x, p, images, cmds)
			wantSame(t, "drawn", x, p, images, cmds, others, amid, true)
			wantQuiet(t, "drawn", x, p, images, cmds, others, amid, -1)
			a, _ := impl.Play(x, images, cmds)
			b, _ := impl.Play(x, others, amid)
			if !slices.Equal(a.Traces[p], b.Traces[p]) || !samePart(a.Parts[p], b.Parts[p]) {
				t.Fatalf("%d sees what it must not", p)
			}
			steps += len(a.Traces[p])
			if !sameStanding(a, b) {
				differ++
			}
		}
	}
	if differ < 150 || steps < 10000 {
		t.Error("too few systems differed, or too few steps:", differ, steps)
	}
}

// For p the commands that CmdsFor leaves are as good as all.
func TestQuietOfTheCommandsThatMatter(t *testing.T) {
	chance := rand.New(rand.NewSource(209))
	fewer := 0
	for range 150 {
		x, images := drawnSystem(t, chance)
		cmds := drawnCmds(chance, x, 40, 4*x.Major)
		for p := range x.Parts {
			left := impl.CmdsFor(x, p, cmds)
			wantSame(t, "what is left", x, p, images, cmds, images, left, true)
			wantQuiet(t, "what is left", x, p, images, cmds, images, left, -1)
			a, isA := impl.Play(x, images, cmds)
			b, isB := impl.Play(x, images, left)
			if !isA || !isB || a.Clock != b.Clock || !slices.Equal(a.Traces[p], b.Traces[p]) || !samePart(a.Parts[p], b.Parts[p]) || !sameFeed(a.Feeds[p], b.Feeds[p]) {
				t.Fatalf("for %d %v are not as good as %v", p, left, cmds)
			}
			fewer += len(cmds) - len(left)
		}
	}
	if fewer < 2000 {
		t.Error("too few were left out:", fewer)
	}
	// Also of as many as there may be.
	x := flowTables(3, sampled(0, 1))
	images := [][][]byte{relaying(t, x, 0), relaying(t, x, 1), relaying(t, x, 2)}
	most := []impl.Cmd{}
	for n := range 300 {
		most = append(most, []impl.Cmd{runCmd(n), inputCmd(n%3, uint32(n)), restartCmd(n % 3), inputCmd(n%4, 1)}[n%4])
	}
	for p := range 3 {
		wantQuiet(t, "the most", x, p, images, most, images, impl.CmdsFor(x, p, most), -1)
	}
}

// anotherSystem changes one thing, which may be seen by p or not.
func anotherSystem(t *testing.T, chance *rand.Rand, x impl.Tables, images [][][]byte, cmds []impl.Cmd) ([][][]byte, []impl.Cmd) {
	t.Helper()
	cmds = slices.Clone(cmds)
	q := chance.Intn(len(x.Parts))
	switch chance.Intn(5) {
	case 0:
		images = withImage(images, q, drawnMachine(t, chance, x, q))
	case 1:
		window := chance.Intn(len(images[q]))
		images = turnedImages(images, q, window, chance.Intn(len(images[q][window])), 1<<chance.Intn(8))
	case 2:
		cmds = append(cmds, restartCmd(q))
	case 3:
		cmds = slices.Insert(cmds, chance.Intn(len(cmds)+1), restartCmd(q), inputCmd(chance.Intn(8), chance.Uint32()))
	case 4:
		if len(cmds) > 0 {
			at := chance.Intn(len(cmds))
			cmds = slices.Delete(cmds, at, at+1)
		}
	}
	return images, cmds[:min(len(cmds), 300)]
}

func TestQuietOfDrawnSystems(t *testing.T) {
	chance := rand.New(rand.NewSource(210))
	counts := map[int]int{}
	for range 220 {
		x, images := drawnSystem(t, chance)
		cmds := drawnCmds(chance, x, 25, 3*x.Major)
		others, amid := anotherSystem(t, chance, x, images, cmds)
		for p := range x.Parts {
			want := quietByHand(x, p, images, cmds, others, amid)
			wantQuiet(t, "drawn", x, p, images, cmds, others, amid, want)
			same := sameForByHand(x, p, images, cmds, others, amid)
			wantSame(t, "drawn", x, p, images, cmds, others, amid, same)
			if same && want != -1 {
				t.Fatalf("%d sees what it must not: %d", p, want)
			}
			counts[min(want, 1)]++
			if same {
				counts[100]++
			}
		}
	}
	if counts[-1] < 100 || counts[-3] < 50 || counts[0] < 20 || counts[1] < 20 || counts[100] < 100 {
		t.Error("too few of a kind:", counts)
	}
}

// mixedSystems are pairs with each sort of answer.
func mixedSystems(t *testing.T, chance *rand.Rand) []givenPair {
	t.Helper()
	x, talk := partTables(), talkingAll(t)
	cmds := []impl.Cmd{inputCmd(0, 5), {At: 2100, Word: 3}, inputCmd(2, 7), {Kind: 2, At: 0, Word: 4}, runCmd(2100), inputCmd(3, 8), {Kind: 5}, runCmd(60000), restartCmd(1)}
	idle := turningAll(x)
	list := []givenPair{{x, 0, talk, cmds, talk, cmds}, {x, 1, talk, cmds, idle, cmds}, {x, 2, talk, cmds, talk, cmds[:2]}, {x, 0, talk, nil, talk, cmds[:1]}, {x, 0, talk, cmds, talk[1:], cmds}, {x, 0, nil, cmds, talk, nil}, {x, 3, talk, cmds, talk, cmds}, {x, -1, talk, cmds, talk, cmds}, {x, 0, talk, slices.Repeat(cmds, 34), talk, cmds}, {impl.Tables{}, 0, talk, cmds, talk, cmds}, {}}
	for _, c := range endCases(t) {
		list = append(list, givenPair{c.x, 0, c.a, c.m, c.b, c.n})
	}
	for range 30 {
		x, images := drawnSystem(t, chance)
		cmds := drawnCmds(chance, x, 15, 2*x.Major)
		others, amid := anotherSystem(t, chance, x, images, cmds)
		list = append(list, givenPair{x, chance.Intn(len(x.Parts)), images, cmds, others, amid})
	}
	return list
}

// givenPair is what Quiet is handed.
type givenPair struct {
	x impl.Tables
	p int
	a [][][]byte
	m []impl.Cmd
	b [][][]byte
	n []impl.Cmd
}

// answers are of all functions that are handed some of it.
type flowAnswers struct {
	joined      []int
	reaches     [3]bool
	left, other []impl.Cmd
	same        bool
	quiet       int
}

func (g givenPair) answers() flowAnswers {
	all := flowAnswers{joined: impl.Joined(g.x, g.p), left: impl.CmdsFor(g.x, g.p, g.m), other: impl.CmdsFor(g.x, g.p, g.n)}
	for q := range all.reaches {
		all.reaches[q] = impl.Influence(g.x, q, g.p)
	}
	all.same = impl.SameFor(g.x, g.p, g.a, g.m, g.b, g.n)
	all.quiet = impl.Quiet(g.x, g.p, g.a, g.m, g.b, g.n)
	return all
}

func sameAnswers(a flowAnswers, b flowAnswers) bool {
	lists := slices.Equal(a.joined, b.joined) && slices.Equal(a.left, b.left) && slices.Equal(a.other, b.other)
	return lists && a.reaches == b.reaches && a.same == b.same && a.quiet == b.quiet
}

func (a flowAnswers) looks() []listLook {
	cmds := func(list []impl.Cmd) listLook {
		return lookAt(list, func(n int) impl.Cmd { return impl.Cmd{Kind: n, At: n} }, func(c impl.Cmd) int { return c.Kind + 3*c.At + 5*int(c.Word) })
	}
	joined := lookAt(a.joined, func(n int) int { return -n }, func(n int) int { return n })
	return []listLook{joined, cmds(a.left), cmds(a.other)}
}

// roomy has each list at the front of a greater one; the functions tell all that those have, and write over all but the tables.
func (g givenPair) roomy() (givenPair, func() string, func()) {
	one, told := givenSystem{g.x, g.a, g.m}.roomy()
	other, toldOther := givenSystem{g.x, g.b, g.n}.roomy()
	scribbled := func() {
		for _, look := range append(one.looks(), other.looks()...) {
			look.scribble(77)
		}
	}
	return givenPair{one.x, g.p, one.images, one.cmds, other.images, other.cmds}, func() string { return told() + toldOther() }, scribbled
}

// Promise 26: nothing that is handed in is written into, nor looked at behind its end.
func TestQuietAndAllFlowsWriteIntoNothing(t *testing.T) {
	for _, g := range mixedSystems(t, rand.New(rand.NewSource(211))) {
		roomy, told, _ := g.roomy()
		before := told()
		got := roomy.answers()
		if after := told(); after != before {
			t.Fatalf("%s\nbecame\n%s", before, after)
		}
		if want := g.answers(); !sameAnswers(got, want) {
			t.Fatalf("what lies behind a list was looked at: %+v, not %+v", got, want)
		}
	}
	events, whole := roomed(someEvents(12), impl.Event{At: 9})
	others, wholeOthers := roomed(someEvents(20)[:12], impl.Event{At: 8})
	before := fmt.Sprint(whole, wholeOthers)
	wantFirst(t, "with room", events, others, -1)
	wantFirst(t, "with room", events[:7], others, 7)
	wantFirst(t, "the very same list", events, events, -1)
	wantFirst(t, "two pieces of one list", whole[:3], whole[:5], 3)
	if fmt.Sprint(whole, wholeOthers) != before {
		t.Error("events were written into")
	}
}

// Promise 26: an answer is new memory: what is written into it is seen in no argument and in no other answer, and the other way round.
func TestQuietAndAllFlowsAreNewMemory(t *testing.T) {
	for _, g := range mixedSystems(t, rand.New(rand.NewSource(212))) {
		want := g.answers()
		roomy, told, scribble := g.roomy()
		before, got := told(), roomy.answers()
		wantLooksApart(t, "answers", got.looks())
		if told() != before {
			t.Fatal("an answer shares memory with an argument")
		}
		got = roomy.answers()
		scribble()
		if !sameAnswers(got, want) {
			t.Fatal("an argument shares memory with an answer")
		}
		if again := g.answers(); !sameAnswers(again, want) {
			t.Fatal("another answer the second time")
		}
	}
}

// However the goroutines run, on one processor or on many and beside each other, the answers are the same; all of them have ended.
func TestQuietHoweverItsGoroutinesRun(t *testing.T) {
	list, want := mixedSystems(t, rand.New(rand.NewSource(213))), []int{}
	for _, g := range list {
		want = append(want, g.answers().quiet)
	}
	before := runtime.NumGoroutine()
	for _, processors := range []int{1, 2, 3, 8} {
		was := runtime.GOMAXPROCS(processors)
		var all sync.WaitGroup
		for n, g := range list {
			for range 3 {
				all.Add(1)
				go func() {
					defer all.Done()
					if got := impl.Quiet(g.x, g.p, g.a, g.m, g.b, g.n); got != want[n] {
						t.Errorf("on %d processors: %d, not %d", processors, got, want[n])
					}
				}()
			}
		}
		all.Wait()
		runtime.GOMAXPROCS(was)
	}
	// One that has said that it is done may take a moment to be gone.
	for range 1000 {
		if runtime.NumGoroutine() <= before {
			return
		}
		time.Sleep(time.Millisecond)
	}
	t.Errorf("%d goroutines, %d before", runtime.NumGoroutine(), before)
}
