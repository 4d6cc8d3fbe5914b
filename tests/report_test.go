package tests

import (
	"fmt"
	"math"
	"math/rand"
	"slices"
	"strings"
	"testing"

	"loop.example/g00076/impl"
)

// reportByHand is for whatever it is given.
func reportByHand(x impl.Tables, told impl.Told) string {
	if !soundByHand(x) || len(told.Parts) != len(x.Parts) || len(told.Traces) != len(x.Parts) {
		return ""
	}
	text := fmt.Sprintf("clock %d\n", told.Clock)
	for p, row := range x.Parts {
		h, costs := told.Parts[p].Health, []int{}
		for _, e := range told.Traces[p] {
			costs = append(costs, e.Cost)
		}
		end := map[bool]string{true: "halted", false: "alive"}[h.Halted]
		text += fmt.Sprintf("part %s %d %d %d %d %s\n", row.Name, len(costs), sumByHand(costs...), h.Faults, h.Restarts, end)
		for n, e := range told.Traces[p] {
			if n+20 >= len(costs) {
				text += eventTextByHand(e) + "\n"
			}
		}
	}
	return text
}

func wantReport(t *testing.T, what string, x impl.Tables, told impl.Told) string {
	t.Helper()
	got := impl.Report(x, told)
	if want := reportByHand(x, told); got != want {
		t.Errorf("%s: Report is\n%s\nnot\n%s", what, shortText(got), shortText(want))
	}
	return got
}

func wantReportIs(t *testing.T, what string, x impl.Tables, told impl.Told, want ...string) {
	t.Helper()
	if got := wantReport(t, what, x, told); got != strings.Join(append(want, ""), "\n") {
		t.Errorf("%s: Report is\n%s\nnot\n%s", what, shortText(got), strings.Join(want, "\n"))
	}
}

func wantNoReport(t *testing.T, what string, x impl.Tables, told impl.Told) {
	t.Helper()
	if got := wantReport(t, what, x, told); got != "" {
		t.Errorf("%s: Report is\n%s", what, shortText(got))
	}
}

// toldWith has a trace of so many events for each partition.
func toldWith(counts ...int) impl.Told {
	told := impl.Told{Clock: 100, Codes: []int{0, 1}}
	for p, count := range counts {
		events := someEvents(count + p)[p:]
		told.Parts = append(told.Parts, impl.PartState{Health: impl.Health{Faults: 10 + p, Restarts: p, Halted: p%2 == 1}})
		told.Traces = append(told.Traces, events)
	}
	return told
}

func TestReportConstant(t *testing.T) {
	if impl.MaxShow != 20 {
		t.Error(impl.MaxShow)
	}
}

func TestReportByNumbers(t *testing.T) {
	x := rightTables()
	told := impl.Told{
		Clock: 777,
		Parts: []impl.PartState{{Health: impl.Health{Faults: 3, Restarts: 2, Last: 9}}, {Health: impl.Health{Faults: 1, Last: 6, Halted: true}}, {}},
		Traces: [][]impl.Event{
			{{At: 70, Cost: 12, PC: 8, Op: impl.OpAddi, Sum: 0xabc}, {At: 82, Cost: 7, PC: 12, Op: -1, Cause: 2, Sum: 0xdef}},
			{{At: 220, Cost: 13, PC: 256, Op: impl.OpTrap, Fault: 6, Sum: 1}},
			nil,
		},
	}
	wantReportIs(t, "three", x, told,
		"clock 777",
		"part a 2 19 3 2 alive",
		"70 12 00000008 addi 0 0 00000abc",
		"82 7 0000000c - 0 2 00000def",
		"part net 1 13 1 0 halted",
		"220 13 00000100 trap 6 0 00000001",
		"part logwrite 0 0 0 0 alive",
	)
	wantReportIs(t, "one that did nothing", leastTables(), impl.Told{Parts: make([]impl.PartState, 1), Traces: make([][]impl.Event, 1)}, "clock 0", "part a 0 0 0 0 alive")
}

// No event, one less than MaxShow, so many, and one more; each partition by itself and all of them.
func TestReportByCountOfEvents(t *testing.T) {
	x := rightTables()
	for _, count := range []int{0, 1, 2, 18, 19, 20, 21, 22, 39, 40, 41, 300, 50000, 50001} {
		for _, counts := range [][]int{{count, 0, 0}, {0, count, 0}, {0, 0, count}, {count, 20, 21}, {21, count, 19}, {19, 21, count}} {
			lines := strings.Count(wantReport(t, fmt.Sprint(counts), x, toldWith(counts...)), "\n")
			if want := 4 + min(counts[0], 20) + min(counts[1], 20) + min(counts[2], 20); lines != want {
				t.Errorf("%v: %d lines, not %d", counts, lines, want)
			}
		}
	}
	// The first of 21 is left out, and counts in the line all the same.
	told := toldWith(21)
	told.Traces[0][0].Cost = 1000
	text := wantReport(t, "one more", leastTables(), told)
	if !strings.HasPrefix(text, "clock 100\npart a 21 1041 10 0 alive\n"+eventTextByHand(told.Traces[0][1])+"\n") || !strings.HasSuffix(text, "\n"+eventTextByHand(told.Traces[0][20])+"\n") {
		t.Error(text)
	}
}

func TestReportByCosts(t *testing.T) {
	for _, costs := range [][]int{{math.MaxInt, 1}, {1, math.MaxInt}, {math.MinInt, -1}, {math.MinInt, math.MinInt}, {math.MaxInt, math.MaxInt}, {math.MaxInt, math.MaxInt, 2}, {math.MinInt, math.MaxInt}, {-5, 3}, {1 << 62, 1 << 62}, {1 << 62, 1 << 62, 1 << 62, 1 << 62}, {-1, -1, -1}, {math.MinInt}, {math.MaxInt}, {0, 0}} {
		told := toldWith(len(costs))
		for n, cost := range costs {
			told.Traces[0][n].Cost = cost
		}
		wantReport(t, fmt.Sprint(costs), leastTables(), told)
	}
	told := toldWith(2)
	told.Traces[0] = []impl.Event{took(1, math.MaxInt), took(2, 1)}
	wantReportIs(t, "a sum that wraps", leastTables(), told, "clock 100", "part a 2 -9223372036854775808 10 0 alive", "1 9223372036854775807 00000000 nop 0 0 00000000", "2 1 00000000 nop 0 0 00000000")
	// What is not shown is in the sum too, also where it wraps.
	many := []impl.Event{took(0, math.MinInt), took(0, -1)}
	told.Traces[0] = append(many, slices.Repeat([]impl.Event{took(3, 0)}, 20)...)
	if text := wantReport(t, "a sum that wraps ahead of what is shown", leastTables(), told); !strings.HasPrefix(text, "clock 100\npart a 22 9223372036854775807 10 0 alive\n3 0 ") {
		t.Error(text)
	}
}

// Whatever stands in a Health and in a Clock is told, right or not.
func TestReportByHealthAndClock(t *testing.T) {
	x := rightTables()
	for _, h := range append(rightHealths(), wrongHealths()...) {
		for p := range 3 {
			told := toldWith(1, 1, 1)
			told.Parts[p].Health = h
			wantReport(t, "a health", x, told)
			h.Halted = !h.Halted
			told.Parts[p].Health = h
			wantReport(t, "a health turned", x, told)
		}
	}
	for _, clock := range append(oddInts(), -1, 0, 1, 50000, 50001) {
		told := toldWith(0, 0, 0)
		told.Clock = clock
		wantReportIs(t, "a clock", x, told, fmt.Sprint("clock ", clock), "part a 0 0 10 0 alive", "part net 0 0 11 1 halted", "part logwrite 0 0 12 2 alive")
	}
}

// Of all that is told, only the Clock, the traces and the health are in a report.
func TestReportOfNothingElse(t *testing.T) {
	x := partTables()
	told, _ := impl.Play(x, talkingAll(t), []impl.Cmd{inputCmd(0, 5), runCmd(2000), restartCmd(1), runCmd(700), {Kind: 9}})
	want := wantReport(t, "played", x, told)
	bare := impl.Told{Clock: told.Clock, Traces: told.Traces}
	for _, s := range told.Parts {
		bare.Parts = append(bare.Parts, impl.PartState{Health: impl.Health{Faults: s.Health.Faults, Restarts: s.Health.Restarts, Halted: s.Health.Halted}})
	}
	if got := wantReport(t, "bare", x, bare); got != want || len(told.Traces[0]) < 20 {
		t.Errorf("%s\nnot\n%s", got, want)
	}
	bare.Codes, bare.Feeds = slices.Repeat([]int{7}, 999), make([][]impl.Feed, 9)
	if got := wantReport(t, "with other codes and feeds", x, bare); got != want {
		t.Errorf("%s\nnot\n%s", got, want)
	}
}

// As many Parts as partitions and other Traces, the other way round, and none of either.
func TestReportByCountOfPartitions(t *testing.T) {
	for _, maker := range scriptMakers() {
		x := maker()
		right := len(x.Parts)
		for parts := range 9 {
			for traces := range 9 {
				told := impl.Told{Clock: 5, Parts: toldWith(make([]int, parts)...).Parts, Traces: toldWith(slices.Repeat([]int{2}, traces)...).Traces}
				if parts == right && traces == right {
					if wantReport(t, "as many", x, told) == "" {
						t.Error("nothing of as many")
					}
				} else {
					wantNoReport(t, fmt.Sprint(parts, " parts and ", traces, " traces for ", right), x, told)
				}
			}
		}
		wantNoReport(t, "the zero value", x, impl.Told{})
	}
}

func TestReportOfTablesThatAreNotSound(t *testing.T) {
	for what, x := range wrongTables() {
		wantNoReport(t, what, x, impl.Told{})
		wantNoReport(t, what, x, toldWith(make([]int, len(x.Parts))...))
		wantNoReport(t, what, x, toldWith(slices.Repeat([]int{21}, len(x.Parts))...))
		wantNoReport(t, what, x, toldWith(1, 2, 3))
	}
	for _, maker := range tableMakers() {
		x := maker()
		told := toldWith(slices.Repeat([]int{1}, len(x.Parts))...)
		for _, number := range numbersIn(&x) {
			was := *number
			for _, n := range append(oddInts(), was-4, was-1, was+1, was+4) {
				*number = n
				wantReport(t, "one number changed", x, told)
			}
			*number = was
		}
	}
}

func TestReportOfDrawnSystems(t *testing.T) {
	chance := rand.New(rand.NewSource(2206))
	halted, long := 0, 0
	for range 400 {
		x, images := drawnSystem(t, chance)
		told, _ := impl.Play(x, images, drawnCmds(chance, x, 12, 3*x.Major))
		text := wantReport(t, "drawn", x, told)
		halted += strings.Count(text, " halted\n")
		// Each event of a report is one of its trace.
		p, at := -1, 0
		for _, line := range cutLines(text)[1:] {
			if strings.HasPrefix(line, "part ") {
				p, at = p+1, max(len(told.Traces[p+1])-20, 0)
				continue
			}
			if e, is := impl.EventOf(line); !is || e != told.Traces[p][at] {
				t.Fatalf("%q is read as %+v and %v, not %+v", line, e, is, told.Traces[p][at])
			}
			at++
			long += int(oneByHand(at > 20))
		}
	}
	if halted < 30 || long < 100 {
		t.Error("too few halted, or too few traces that are cut:", halted, long)
	}
}

// roomyTold has each list at the front of a greater one.
func roomyTold(told impl.Told) impl.Told {
	told = copyTold(told)
	for p := range told.Parts {
		told.Parts[p] = roomyPart(told.Parts[p])
	}
	for p := range told.Traces {
		told.Traces[p], _ = roomed(told.Traces[p], impl.Event{At: 9, Cost: 9})
		told.Feeds[p] = roomyFeed(told.Feeds[p])
	}
	told.Codes, _ = roomed(told.Codes, 9)
	told.Parts, _ = roomed(told.Parts, impl.PartState{Next: 9, Health: impl.Health{Faults: 99, Halted: true}})
	told.Traces, _ = roomed(told.Traces, []impl.Event{{At: 8, Cost: 8}})
	told.Feeds, _ = roomed(told.Feeds, []impl.Feed{restartRow(7)})
	return told
}

// Promise 26: neither the tables nor what is told is written into, nor is the room behind any list, and that room is not looked at.
func TestReportWritesIntoNothing(t *testing.T) {
	for _, g := range memorySystems(t, rand.New(rand.NewSource(2207))) {
		told, _ := impl.Play(g.x, g.images, g.cmds)
		x, tables := roomyTables(g.x)
		roomy := roomyTold(told)
		looks := toldLooks(roomy)
		before, beforeTold := tables(), toldOf(looks)
		got := impl.Report(x, roomy)
		if tables() != before || toldOf(looks) != beforeTold {
			t.Fatal("a report wrote into what it was given")
		}
		if got != reportByHand(g.x, told) {
			t.Fatal("what lies behind a list was looked at")
		}
		for _, look := range looks {
			look.scribble(77)
		}
		if again := impl.Report(g.x, told); again != got {
			t.Fatal("another report the second time")
		}
	}
}
