package tests

import (
	"fmt"
	"math"
	"math/rand"
	"slices"
	"testing"

	"loop.example/g00076/impl"
)

// spanOf has its parts in the order in which they stand in a Span.
func spanOf(from int, to int, part int, phase int) impl.Span {
	return impl.Span{From: from, To: to, Part: part, Phase: phase}
}

// isOneSpan is whether two cycles that follow one another belong to one span.
func isOneSpan(a moment, b moment) bool {
	return a.slot == b.slot && a.phase == b.phase && a.frame == b.frame
}

// spansByHand goes through the chart cycle by cycle; from and to may be anything, the tables must be sound.
func spansByHand(chart []moment, from int, to int) []impl.Span {
	list := []impl.Span{}
	if !isBetween(from, 0, 50000) || !isBetween(to, 0, 50000) || !isBetween(to-from, 1, 5000) {
		return list
	}
	for c := from; c < to; c++ {
		if c == from || !isOneSpan(chart[c-1], chart[c]) {
			list = append(list, spanOf(c, c, chart[c].part, chart[c].phase))
		}
		list[len(list)-1].To = c + 1
	}
	return list
}

// wantSpansAre asks SpansOk and Blame too: both must bear what Spans gives.
func wantSpansAre(t *testing.T, x impl.Tables, from int, to int, want ...impl.Span) {
	t.Helper()
	got := impl.Spans(x, from, to)
	if !slices.Equal(got, want) {
		t.Fatalf("Spans from %d to %d are\n%v, not\n%v, over frames of %d with %+v", from, to, got, want, x.Major, x.Slots)
	}
	if impl.SpansOk(x, from, to, got) != (len(got) > 0) {
		t.Errorf("from %d to %d: SpansOk of %v is %v", from, to, got, len(got) == 0)
	}
	wantNumber(t, fmt.Sprintf("from %d to %d: Blame of what Spans gives", from, to), impl.Blame(x, got), -1)
}

func wantSpansByHand(t *testing.T, x impl.Tables, chart []moment, from int, to int) {
	t.Helper()
	wantSpansAre(t, x, from, to, spansByHand(chart, from, to)...)
}

func wantNoSpans(t *testing.T, x impl.Tables, from int, to int) {
	t.Helper()
	wantSpansAre(t, x, from, to)
}

// auditMakers have slots that touch and slots that do not, of one partition and of several, and cycles that nobody has at either end of a frame.
func auditMakers() []func() impl.Tables {
	return append(cutMakers(), func() impl.Tables {
		// Neighbours that touch and have the same partition.
		return changed(touchTables, func(x *impl.Tables) { x.Slots[0].Part, x.Slots[1].Part, x.Slots[2].Part = 1, 1, 1 })
	})
}

func TestLogConstants(t *testing.T) {
	wantNumber(t, "MaxSpan", impl.MaxSpan, 5000)
	for n, maker := range auditMakers() {
		wantSound(t, fmt.Sprint("tables ", n), maker(), true)
	}
}

func TestSpansByNumbers(t *testing.T) {
	x := rightTables()
	frame := []impl.Span{
		spanOf(0, 10, -1, 0), spanOf(10, 70, 0, 1), spanOf(70, 110, 0, 2), spanOf(110, 160, 0, 3),
		spanOf(160, 220, 1, 1), spanOf(220, 310, 1, 2), spanOf(310, 360, 1, 3), spanOf(360, 400, -1, 0),
		spanOf(400, 460, 0, 1), spanOf(460, 461, 0, 2), spanOf(461, 511, 0, 3), spanOf(511, 600, -1, 0),
		spanOf(600, 660, 1, 1), spanOf(660, 850, 1, 2), spanOf(850, 900, 1, 3), spanOf(900, 1000, -1, 0),
	}
	wantSpansAre(t, x, 0, 1000, frame...)
	wantSpansAre(t, x, 5, 200, slices.Concat([]impl.Span{spanOf(5, 10, -1, 0)}, frame[1:4], []impl.Span{spanOf(160, 200, 1, 1)})...)
	wantSpansAre(t, x, 460, 461, spanOf(460, 461, 0, 2))
	wantSpansAre(t, x, 459, 462, spanOf(459, 460, 0, 1), spanOf(460, 461, 0, 2), spanOf(461, 462, 0, 3))
	wantSpansAre(t, x, 359, 401, spanOf(359, 360, 1, 3), spanOf(360, 400, -1, 0), spanOf(400, 401, 0, 1))
	two := slices.Clone(frame)
	for _, s := range frame {
		two = append(two, spanOf(s.From+1000, s.To+1000, s.Part, s.Phase))
	}
	wantSpansAre(t, x, 0, 2000, two...)
	wantSpansAre(t, x, 700, 1300, slices.Concat([]impl.Span{spanOf(700, 850, 1, 2)}, two[14:21], []impl.Span{spanOf(1220, 1300, 1, 2)})...)
}

// Each slot ends where the next one starts, within the frame and at its end; one partition has them, or two.
func TestSpansOfSlotsThatTouch(t *testing.T) {
	x := touchTables()
	for _, parts := range [][3]int{{2, 0, 2}, {0, 0, 0}, {1, 1, 2}, {0, 1, 2}} {
		for n, part := range parts {
			x.Slots[n].Part = part
		}
		for frame := range 3 {
			b := 61 * frame
			wantSpansAre(t, x, b, b+61,
				spanOf(b, b+16, parts[0], 1), spanOf(b+16, b+17, parts[0], 2), spanOf(b+17, b+18, parts[0], 3),
				spanOf(b+18, b+34, parts[1], 1), spanOf(b+34, b+42, parts[1], 2), spanOf(b+42, b+43, parts[1], 3),
				spanOf(b+43, b+59, parts[2], 1), spanOf(b+59, b+60, parts[2], 2), spanOf(b+60, b+61, parts[2], 3))
		}
		wantSpansAre(t, x, 58, 64, spanOf(58, 59, parts[2], 1), spanOf(59, 60, parts[2], 2), spanOf(60, 61, parts[2], 3), spanOf(61, 64, parts[0], 1))
	}
	wantSpansAre(t, leastTables(), 15, 37, spanOf(15, 16, 0, 1), spanOf(16, 17, 0, 2), spanOf(17, 18, 0, 3), spanOf(18, 34, 0, 1), spanOf(34, 35, 0, 2), spanOf(35, 36, 0, 3), spanOf(36, 37, 0, 1))
	wantSpansAre(t, frameTables(), 0, 5000, spanOf(0, 1000, 0, 1), spanOf(1000, 4580, 0, 2), spanOf(4580, 5000, 0, 3))
	wantSpansAre(t, frameTables(), 4999, 5001, spanOf(4999, 5000, 0, 3), spanOf(5000, 5001, 0, 1))
}

// A span ends with its frame, also where nobody has the core on both sides of the border.
func TestSpansEndWithTheirFrame(t *testing.T) {
	for _, frame := range []int{1, 2, 17, 49, 50} {
		b := 1000 * frame
		wantSpansAre(t, rightTables(), b-1, b, spanOf(b-1, b, -1, 0))
		wantSpansAre(t, rightTables(), b-100, b, spanOf(b-100, b, -1, 0))
		if frame == 50 {
			break
		}
		wantSpansAre(t, rightTables(), b, b+1, spanOf(b, b+1, -1, 0))
		wantSpansAre(t, rightTables(), b-1, b+1, spanOf(b-1, b, -1, 0), spanOf(b, b+1, -1, 0))
		wantSpansAre(t, rightTables(), b-50, b+20, spanOf(b-50, b, -1, 0), spanOf(b, b+10, -1, 0), spanOf(b+10, b+20, 0, 1))
	}
	// A slot at one end of a frame with much room at the other, so that a frame's border is the only one far and wide.
	for _, start := range []int{0, 1, 2, 2491, 4980, 4981, 4982} {
		x := changed(leastTables, func(x *impl.Tables) { x.Major, x.Slots[0].Start = 5000, start })
		wantSound(t, "one slot in a long frame", x, true)
		for _, frame := range []int{0, 1, 9} {
			b := 5000 * frame
			want := []impl.Span{spanOf(b, b+start, -1, 0), spanOf(b+start, b+start+16, 0, 1), spanOf(b+start+16, b+start+17, 0, 2), spanOf(b+start+17, b+start+18, 0, 3), spanOf(b+start+18, b+5000, -1, 0)}
			want = slices.DeleteFunc(want, func(s impl.Span) bool { return s.From == s.To })
			wantSpansAre(t, x, b, b+5000, want...)
			if frame > 0 {
				wantSpansByHand(t, x, chartByHand(x), b-2500, b+2500)
				wantSpansByHand(t, x, chartByHand(x), b-1, b+1)
			}
		}
	}
}

// All pairs of cycles of the first frames and of the last ones, some of which are none.
func TestSpansOfEachPairOfCycles(t *testing.T) {
	for _, maker := range []func() impl.Tables{leastTables, touchTables} {
		x := maker()
		chart := chartByHand(x)
		for _, first := range []int{-2, 49898} {
			for from := first; from < first+105; from++ {
				for to := from - 2; to < first+105; to++ {
					wantSpansByHand(t, x, chart, from, to)
				}
			}
		}
	}
}

// From and to at the first and the last cycle of each phase and beside them, in frames from the first to the one that MaxCycle cuts short.
func TestSpansBetweenEdgesOfPhases(t *testing.T) {
	for _, maker := range auditMakers() {
		x := maker()
		chart, edges := chartByHand(x), edgesOf(x)
		for _, frame := range framesOf(x) {
			border := frame * x.Major
			for n, from := range edges {
				for _, to := range edges[n:min(n+15, len(edges))] {
					wantSpansByHand(t, x, chart, border+from, border+to)
				}
				for _, more := range []int{x.Major - 1, x.Major, x.Major + 1, 2*x.Major + 3, 7 * x.Major} {
					wantSpansByHand(t, x, chart, border+from, border+from+more)
				}
			}
		}
	}
}

// To less from of 0 and below, of 1, of MaxSpan and one more; from and to of 0 and of MaxCycle and beside them.
func TestSpansAtTheirLimits(t *testing.T) {
	for _, maker := range auditMakers() {
		x := maker()
		chart := chartByHand(x)
		for _, from := range []int{-5001, -5000, -4999, -2, -1, 0, 1, 2, 17, 4999, 5000, 5001, 25000, 44998, 44999, 45000, 45001, 49998, 49999, 50000, 50001, 50002} {
			for _, length := range []int{-50000, -5001, -5000, -4999, -2, -1, 0, 1, 2, 4998, 4999, 5000, 5001, 5002, 10000, 50000, 50001} {
				wantSpansByHand(t, x, chart, from, from+length)
			}
		}
		wantNumber(t, "of 0 to MaxCycle", len(impl.Spans(x, 0, 50000)), 0)
		for _, from := range []int{0, 1, 45000} {
			wantNoSpans(t, x, from, from)
			wantNoSpans(t, x, from, from+5001)
			if len(impl.Spans(x, from, from+5000)) == 0 || len(impl.Spans(x, from, from+1)) != 1 {
				t.Errorf("from %d on lack spans of %+v", from, x.Slots)
			}
		}
		wantNoSpans(t, x, 49999, 50001)
		wantNoSpans(t, x, 50000, 50001)
		wantNoSpans(t, x, -1, 0)
		wantNoSpans(t, x, -1, 1)
	}
}

func TestSpansOfCyclesThatAreNone(t *testing.T) {
	for _, maker := range auditMakers() {
		x := maker()
		for _, c := range noCycles() {
			for _, other := range append(noCycles(), 0, 1, 100, 4999, 49999, 50000) {
				wantNoSpans(t, x, c, other)
				wantNoSpans(t, x, other, c)
			}
			// These lie as far apart as they may, some only as their difference wraps.
			for _, length := range []int{0, 1, 2, 4999, 5000, 5001, math.MaxInt, math.MinInt} {
				wantNoSpans(t, x, c, c+length)
				wantNoSpans(t, x, c-length, c)
			}
		}
	}
}

func TestSpansOfTablesThatAreNotSound(t *testing.T) {
	for _, x := range wrongTables() {
		for _, from := range []int{-1, 0, 1, 100, 45000, 49999, 50000, math.MinInt, math.MaxInt} {
			for _, length := range []int{0, 1, 2, 100, 5000} {
				wantNoSpans(t, x, from, from+length)
			}
		}
	}
	chance := rand.New(rand.NewSource(2401))
	for _, maker := range tableMakers() {
		x := maker()
		for _, number := range numbersIn(&x) {
			was := *number
			for _, n := range append(oddInts(), was-4, was-1, was+1, was+4) {
				*number = n
				from := chance.Intn(49000)
				if !soundByHand(x) {
					wantNoSpans(t, x, from, from+1+chance.Intn(900))
				}
			}
			*number = was
		}
	}
}

func TestSpansOfDrawnTables(t *testing.T) {
	chance := rand.New(rand.NewSource(2402))
	counts := map[bool]int{}
	for n := range 300 {
		x := drawnTables(chance)
		if n%2 == 0 {
			x = stretched(chance, x)
		}
		if n%3 == 0 {
			disturb(chance, &x)
		}
		is := soundByHand(x)
		counts[is]++
		if !is {
			wantNoSpans(t, x, 0, 1+chance.Intn(5000))
			continue
		}
		chart := chartUpTo(x, 12000)
		for range 12 {
			from := chance.Intn(7000)
			wantSpansByHand(t, x, chart, from, from+chance.Intn(5003)-1)
			wantSpansByHand(t, x, chart, from, from+chance.Intn(40))
		}
	}
	if counts[true] < 200 || counts[false] < 30 {
		t.Error("too few of one kind:", counts)
	}
}

// askedAt is what chapter 15 tells of a cycle.
func askedAt(x impl.Tables, c int) [4]int {
	slot, part := impl.SlotAt(x, c), -1
	if slot >= 0 {
		part = x.Slots[slot].Part
	}
	return [4]int{slot, part, impl.PhaseAt(x, c), impl.FrameOf(x, c)}
}

// wantLog holds spans against what chapter 15 tells: they follow one another without a gap, each is as said at each of its cycles, and none could be longer.
func wantLog(t *testing.T, x impl.Tables, from int, to int) {
	t.Helper()
	at := from
	for n, s := range impl.Spans(x, from, to) {
		if s.From != at || s.To <= s.From || s.To > to {
			t.Fatalf("span %d of %d to %d is %+v, and the one ahead ended at %d", n, from, to, s, at)
		}
		first := askedAt(x, s.From)
		for c := s.From; c < s.To; c++ {
			now := askedAt(x, c)
			if now != first || now[1] != s.Part || now[2] != s.Phase {
				t.Fatalf("at %d are %v, of %+v, which began with %v", c, now, s, first)
			}
		}
		if s.To < to && askedAt(x, s.To) == first {
			t.Fatalf("%+v could go on: %v", s, first)
		}
		at = s.To
	}
	if at != to {
		t.Fatalf("the spans of %d to %d end at %d", from, to, at)
	}
}

// Promise 24: spans follow one another without a gap.
func TestTheLogHasNoGap(t *testing.T) {
	for _, maker := range auditMakers() {
		x := maker()
		wantLog(t, x, 0, min(2*x.Major+1, 1200))
		wantLog(t, x, 49700, 50000)
		wantLog(t, x, x.Major-1, x.Major+1)
	}
	chance := rand.New(rand.NewSource(2403))
	for _, x := range promiseTables(2404, 60) {
		from := chance.Intn(49000)
		wantLog(t, stretched(chance, x), from, from+1+chance.Intn(400))
	}
}

// What is said in two goes is what is said in one: a span that is cut is told in two parts.
func TestALogIsItsParts(t *testing.T) {
	chance := rand.New(rand.NewSource(2405))
	cut, whole := 0, 0
	for _, x := range promiseTables(2406, 200) {
		from := chance.Intn(45001)
		to := from + 2 + chance.Intn(min(4999, 2*x.Major))
		at := from + 1 + chance.Intn(to-from-1)
		all, parts := impl.Spans(x, from, to), slices.Concat(impl.Spans(x, from, at), impl.Spans(x, at, to))
		n := slices.IndexFunc(parts, func(s impl.Span) bool { return s.From == at })
		if !slices.Equal(all, parts) {
			cut++
			parts = slices.Concat(parts[:n-1], []impl.Span{spanOf(parts[n-1].From, parts[n].To, parts[n].Part, parts[n].Phase)}, parts[n+1:])
		} else {
			whole++
		}
		if !slices.Equal(all, parts) {
			t.Fatalf("from %d over %d to %d: %v and %v", from, at, to, all, parts)
		}
	}
	if cut < 100 || whole < 5 {
		t.Error("too few of one kind:", cut, whole)
	}
}

// spanSumByHand counts the cycles one by one.
func spanSumByHand(list []impl.Span, part int, phase int) int {
	sum := 0
	if len(list) > 5000 {
		return 0
	}
	for _, s := range list {
		if s.Part == part && s.Phase == phase && isBetween(s.From, 0, 50000) && isBetween(s.To, 0, 50000) {
			for c := s.From; c < s.To; c++ {
				sum++
			}
		}
	}
	return sum
}

func wantSpanSum(t *testing.T, list []impl.Span, part int, phase int, want int) {
	t.Helper()
	wantNumber(t, fmt.Sprintf("SpanSum of %d spans for %d in phase %d", len(list), part, phase), impl.SpanSum(list, part, phase), want)
	wantNumber(t, "the model's sum", spanSumByHand(list, part, phase), want)
}

func TestSpanSumByNumbers(t *testing.T) {
	list := impl.Spans(rightTables(), 0, 1000)
	for part, sums := range map[int][4]int{-1: {239, 0, 0, 0}, 0: {0, 120, 41, 100}, 1: {0, 120, 280, 100}, 2: {}, -2: {}, 6: {}, math.MaxInt: {}, math.MinInt: {}} {
		for phase, sum := range sums {
			wantSpanSum(t, list, part, phase, sum)
		}
		for _, phase := range append(oddInts(), -2, -1, 4, 5) {
			wantSpanSum(t, list, part, phase, 0)
		}
	}
	for _, part := range append(oddInts(), -1, 0, 1) {
		for phase := -1; phase < 5; phase++ {
			wantSpanSum(t, nil, part, phase, 0)
			wantSpanSum(t, []impl.Span{}, part, phase, 0)
			// What a span says counts, also where there is no such part or phase.
			wantSpanSum(t, []impl.Span{spanOf(7, 11, part, phase), spanOf(7, 11, part, phase+1), spanOf(7, 11, part+1, phase)}, part, phase, 4)
		}
	}
	wantSpanSum(t, []impl.Span{{To: 3}, {}, {To: 5}}, 0, 0, 8)
	wantSpanSum(t, []impl.Span{spanOf(1, 2, math.MinInt, math.MaxInt)}, math.MinInt, math.MaxInt, 1)
	// Spans that lie over one another and stand in no order count each by itself.
	wantSpanSum(t, []impl.Span{spanOf(90, 100, 1, 2), spanOf(10, 95, 1, 2), spanOf(90, 100, 1, 2)}, 1, 2, 105)
}

// A span of which From is above To, or one of both is no cycle, counts for nothing, and takes nothing from the others.
func TestSpanSumOfEachEnd(t *testing.T) {
	ends := append(noCycles(), 0, 1, 2, 100, 4999, 5000, 5001, 49998, 49999, 50000)
	for _, from := range ends {
		for _, to := range ends {
			want := 0
			if isBetween(from, 0, 50000) && isBetween(to, from, 50000) {
				want = to - from
			}
			wantSpanSum(t, []impl.Span{spanOf(from, to, 3, 1)}, 3, 1, want)
			wantSpanSum(t, []impl.Span{spanOf(4, 9, 3, 1), spanOf(from, to, 3, 1), spanOf(11, 12, 3, 1)}, 3, 1, want+6)
			wantSpanSum(t, []impl.Span{spanOf(4, 9, 3, 1), spanOf(from, to, 3, 2), spanOf(from, to, 2, 1)}, 3, 1, 5)
		}
	}
	wantSpanSum(t, []impl.Span{spanOf(0, 50000, 0, 2)}, 0, 2, 50000)
	wantSpanSum(t, []impl.Span{spanOf(0, 50001, 0, 2)}, 0, 2, 0)
	wantSpanSum(t, []impl.Span{spanOf(-1, 50000, 0, 2)}, 0, 2, 0)
	wantSpanSum(t, []impl.Span{spanOf(50000, 50000, 0, 2)}, 0, 2, 0)
	wantSpanSum(t, []impl.Span{spanOf(8, 8, 0, 2)}, 0, 2, 0)
	wantSpanSum(t, []impl.Span{spanOf(9, 8, 0, 2)}, 0, 2, 0)
	wantSpanSum(t, []impl.Span{spanOf(8, 9, 0, 2)}, 0, 2, 1)
}

func TestSpanSumOfManySpans(t *testing.T) {
	for count, want := range map[int]int{4999: 4999 * 3, 5000: 5000 * 3, 5001: 0, 5002: 0, 10000: 0, 1<<16 + 5: 0} {
		list := slices.Repeat([]impl.Span{spanOf(5, 8, 2, 1)}, count)
		wantSpanSum(t, list, 2, 1, want)
		wantSpanSum(t, list, 2, 2, 0)
	}
	wantNumber(t, "as much as there can be", impl.SpanSum(slices.Repeat([]impl.Span{spanOf(0, 50000, 2, 1)}, 5000), 2, 1), 250000000)
	wantNumber(t, "one more", impl.SpanSum(slices.Repeat([]impl.Span{spanOf(0, 50000, 2, 1)}, 5001), 2, 1), 0)
	// Spans that do not count by themselves are spans of the list all the same.
	wantSpanSum(t, append(make([]impl.Span, 4999), spanOf(5, 8, 2, 1)), 2, 1, 3)
	wantSpanSum(t, append(make([]impl.Span, 5000), spanOf(5, 8, 2, 1)), 2, 1, 0)
}

func TestSpanSumOfDrawnSpans(t *testing.T) {
	chance := rand.New(rand.NewSource(2407))
	counts := map[bool]int{}
	for range 2000 {
		list := []impl.Span{}
		for range chance.Intn(12) {
			from := chance.Intn(50100) - 50
			list = append(list, spanOf(from, from+chance.Intn(300)-20, chance.Intn(4)-1, chance.Intn(4)))
		}
		part, phase := chance.Intn(4)-1, chance.Intn(4)
		want := spanSumByHand(list, part, phase)
		wantSpanSum(t, list, part, phase, want)
		counts[want > 0]++
	}
	if counts[true] < 500 || counts[false] < 500 {
		t.Error("too few of one kind:", counts)
	}
}

// The sums of a log are what chapters 13 and 15 count.
func TestSumsOfALog(t *testing.T) {
	chance := rand.New(rand.NewSource(2408))
	for _, x := range promiseTables(2409, 150) {
		x = stretched(chance, x)
		from := chance.Intn(45000)
		to := from + 1 + chance.Intn(5000)
		list, all := impl.Spans(x, from, to), 0
		for part := -1; part <= len(x.Parts); part++ {
			wantSpanSum(t, list, part, impl.PhaseRun, impl.CyclesOf(x, part, from, to))
			for phase := range 4 {
				all += impl.SpanSum(list, part, phase)
			}
		}
		wantNumber(t, "what all phases of all have", all, to-from)
		border := x.Major * chance.Intn(45000/x.Major)
		frame, pads := impl.Spans(x, border, border+x.Major), 0
		wantSpanSum(t, frame, -1, impl.PhaseFree, impl.GapOf(x))
		for part := range x.Parts {
			wantSpanSum(t, frame, part, impl.PhaseRun, impl.ShareOf(x, part))
			pads += impl.SpanSum(frame, part, impl.PhaseSwitch)
		}
		wantNumber(t, "what switches have", pads, len(x.Slots)*x.Pad)
	}
}

func lookSpans(list []impl.Span) listLook {
	return lookAt(list, func(n int) impl.Span { return spanOf(n, n, n, n) }, func(s impl.Span) int { return s.From + 7*s.To + 77*s.Part + 777*s.Phase })
}

// Promise 26: no list of the tables, and no list within a list, is written into, nor is the room behind it, nor is that looked at.
func TestSpansWriteIntoNothing(t *testing.T) {
	for n, x := range tablesOfAllSorts(2410) {
		given, told := roomyTables(x)
		before := told()
		for _, from := range []int{math.MinInt, -1, 37 * n, 45000, 49990, 50000, math.MaxInt} {
			for _, length := range []int{-1, 0, 1, 10, 700, 5000, 5001} {
				if got, want := impl.Spans(given, from, from+length), impl.Spans(x, from, from+length); !slices.Equal(got, want) {
					t.Errorf("with room behind: %v, not %v", got, want)
				}
			}
		}
		if after := told(); after != before {
			t.Fatalf("%s\nbecame\n%s", before, after)
		}
	}
}

func TestListsOfALogAreItsOwn(t *testing.T) {
	for n, x := range promiseTables(2411, 40) {
		given := spareTables(x)
		first, second := impl.Spans(given, 100*n, 100*n+999), impl.Spans(given, 100*n, 100*n+999)
		before := slices.Clone(first)
		wantLooksApart(t, fmt.Sprint("tables ", n), []listLook{lookSpans(first), lookSpans(second)})
		if third := impl.Spans(given, 100*n, 100*n+999); !slices.Equal(third, before) {
			t.Errorf("tables %d: %v became %v", n, before, third)
		}
		wantLooksApart(t, fmt.Sprint("tables ", n), append(lookTables(given), lookSpans(second)))
	}
}

func TestSpanSumWritesIntoNothing(t *testing.T) {
	for n, x := range promiseTables(2412, 40) {
		list, whole := roomed(impl.Spans(x, 300*n, 300*n+1500), spanOf(3, 9, 0, impl.PhaseRun))
		before := slices.Clone(whole)
		for part := -1; part < 3; part++ {
			for phase := range 4 {
				wantSpanSum(t, list, part, phase, spanSumByHand(slices.Clone(list), part, phase))
			}
		}
		if !slices.Equal(whole, before) {
			t.Errorf("tables %d: %v became %v", n, before, whole)
		}
	}
}
