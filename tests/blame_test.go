package tests

import (
	"fmt"
	"math"
	"math/rand"
	"slices"
	"testing"

	"loop.example/g00076/impl"
)

// isWrongByHand looks at each cycle of the span; the tables must be sound.
func isWrongByHand(chart []moment, s impl.Span) bool {
	if !isBetween(s.From, 0, 50000) || !isBetween(s.To, 0, 50000) {
		return true
	}
	for c := s.From; c < s.To; c++ {
		if chart[c].phase != s.Phase || chart[c].part != s.Part {
			return true
		}
	}
	return s.From >= s.To
}

func blameByHand(chart []moment, list []impl.Span) int {
	if len(list) > 5000 {
		return -1
	}
	return slices.IndexFunc(list, func(s impl.Span) bool { return isWrongByHand(chart, s) })
}

func wantBlame(t *testing.T, x impl.Tables, want int, list ...impl.Span) {
	t.Helper()
	if got := impl.Blame(x, list); got != want {
		t.Errorf("Blame is %d, not %d, of %d spans\n%v\nover frames of %d with %+v", got, want, len(list), list[:min(len(list), 40)], x.Major, x.Slots)
	}
}

// wantBlameByHand asks the model, and tells what it says.
func wantBlameByHand(t *testing.T, x impl.Tables, chart []moment, list ...impl.Span) int {
	t.Helper()
	want := blameByHand(chart, list)
	wantBlame(t, x, want, list...)
	return want
}

func wantSpansOk(t *testing.T, what string, x impl.Tables, from int, to int, list []impl.Span, want bool) {
	t.Helper()
	if got := impl.SpansOk(x, from, to, list); got != want {
		t.Errorf("%s: SpansOk from %d to %d is %v, not %v, of\n%v", what, from, to, got, want, list[:min(len(list), 40)])
	}
}

// turnedSpans have one field of a span turned: to another number near it, or to one far away.
func turnedSpans(s impl.Span) []impl.Span {
	list := []impl.Span{}
	for _, add := range []int{-2, -1, 1, 2, 60, -60, 1 << 8, 1 << 16, 1 << 32, -1 << 32, 1 << 62, math.MinInt} {
		list = append(list, spanOf(s.From+add, s.To, s.Part, s.Phase), spanOf(s.From, s.To+add, s.Part, s.Phase), spanOf(s.From, s.To, s.Part+add, s.Phase), spanOf(s.From, s.To, s.Part, s.Phase+add))
	}
	return list
}

// withSpan has another span at that place.
func withSpan(list []impl.Span, n int, s impl.Span) []impl.Span {
	list = slices.Clone(list)
	list[n] = s
	return list
}

// cutSpan has the span at that place in two.
func cutSpan(list []impl.Span, n int, at int) []impl.Span {
	s := list[n]
	return slices.Concat(list[:n], []impl.Span{spanOf(s.From, at, s.Part, s.Phase), spanOf(at, s.To, s.Part, s.Phase)}, list[n+1:])
}

// logsOf are from and to of logs of one span, of some, of more than a frame, and of MaxSpan cycles.
func logsOf(x impl.Tables) [][2]int {
	return [][2]int{{0, 1}, {49999, 50000}, {0, min(x.Major, 5000)}, {x.Slots[0].Start + 3, x.Slots[0].Start + min(x.Major+9, 5000)}, {x.Major - 1, x.Major + 1}, {45000, 50000}}
}

// Just the very list is right, be it the same memory or a copy.
func TestSpansOkOfTheVeryList(t *testing.T) {
	for n, maker := range auditMakers() {
		x, what := maker(), fmt.Sprint("tables ", n)
		for _, log := range logsOf(x) {
			from, to := log[0], log[1]
			list := impl.Spans(x, from, to)
			wantSpansOk(t, what, x, from, to, list, true)
			wantSpansOk(t, what+", a copy", x, from, to, slices.Clone(list), true)
			wantSpansOk(t, what+", nil", x, from, to, nil, false)
			wantSpansOk(t, what+", empty", x, from, to, []impl.Span{}, false)
			wantSpansOk(t, what+", without the last", x, from, to, list[:len(list)-1], false)
			wantSpansOk(t, what+", without the first", x, from, to, list[1:], false)
			wantSpansOk(t, what+", without one in the middle", x, from, to, slices.Delete(slices.Clone(list), len(list)/2, len(list)/2+1), false)
			for _, s := range []impl.Span{{}, list[0], list[len(list)-1], spanOf(to, to+1, -1, 0), spanOf(to, to, list[len(list)-1].Part, list[len(list)-1].Phase), spanOf(from, from, list[0].Part, list[0].Phase)} {
				for _, at := range []int{0, len(list) / 2, len(list)} {
					wantSpansOk(t, what+", one too many", x, from, to, slices.Insert(slices.Clone(list), at, s), false)
				}
			}
			wantSpansOk(t, what+", twice", x, from, to, slices.Concat(list, list), false)
			wantSpansOk(t, what+", very long", x, from, to, slices.Concat(list, make([]impl.Span, 10000)), false)
		}
	}
}

// One field of the first, a middle and the last span is turned, or two spans stand in each other's place.
func TestSpansOkOfATurnedList(t *testing.T) {
	for n, maker := range auditMakers() {
		x, what := maker(), fmt.Sprint("tables ", n)
		for _, log := range logsOf(x) {
			from, to := log[0], log[1]
			list := impl.Spans(x, from, to)
			for _, at := range []int{0, len(list) / 2, len(list) - 1} {
				for _, s := range turnedSpans(list[at]) {
					wantSpansOk(t, what+", turned", x, from, to, withSpan(list, at, s), false)
				}
				if at > 0 {
					turned := withSpan(withSpan(list, at, list[at-1]), at-1, list[at])
					wantSpansOk(t, what+", two in each other's place", x, from, to, turned, false)
				}
				if list[at].To-list[at].From > 1 {
					for _, cut := range []int{list[at].From + 1, list[at].To - 1} {
						two := cutSpan(list, at, cut)
						wantSpansOk(t, what+", one cut in two", x, from, to, two, false)
						wantBlame(t, x, -1, two...)
					}
				}
			}
		}
	}
}

// The spans of other cycles, which may well be as many, are not the ones asked for.
func TestSpansOkOfOtherCycles(t *testing.T) {
	for n, maker := range auditMakers() {
		x, what := maker(), fmt.Sprint("tables ", n)
		for _, log := range logsOf(x) {
			from, to := log[0], log[1]
			list := impl.Spans(x, from, to)
			for _, other := range [][2]int{{from + 1, to}, {from - 1, to}, {from, to + 1}, {from, to - 1}, {from + 1, to + 1}, {from - 1, to - 1}, {to, from}, {from, from}, {to, to}, {from + x.Major, to + x.Major}, {from - x.Major, to - x.Major}} {
				wantSpansOk(t, what+", other cycles", x, other[0], other[1], list, false)
			}
			for _, c := range noCycles() {
				for _, other := range [][2]int{{c, to}, {from, c}, {c, c}, {c, c + to - from}} {
					wantSpansOk(t, what+", no cycle", x, other[0], other[1], list, false)
					wantSpansOk(t, what+", no cycle", x, other[0], other[1], nil, false)
					wantSpansOk(t, what+", no cycle", x, other[0], other[1], []impl.Span{{}}, false)
				}
			}
		}
		// Each span that stands here is right, but MaxSpan is passed.
		whole := append(impl.Spans(x, 0, 5000), impl.Spans(x, 5000, 5001)...)
		wantSpansOk(t, what+", one cycle too many", x, 0, 5001, whole, false)
		wantSpansOk(t, what+", of none", x, 5, 5, []impl.Span{}, false)
		wantSpansOk(t, what+", of none, nil", x, 5, 5, nil, false)
	}
}

func TestSpansOkOfTablesThatAreNotSound(t *testing.T) {
	list := impl.Spans(rightTables(), 0, 1000)
	for what, x := range wrongTables() {
		wantSpansOk(t, what, x, 0, 1000, list, false)
		wantSpansOk(t, what, x, 0, 1000, nil, false)
		wantSpansOk(t, what, x, 0, 1, []impl.Span{spanOf(0, 1, -1, 0)}, false)
	}
	// Sound tables of another kind have other spans.
	for n, maker := range auditMakers() {
		x := maker()
		chart := chartUpTo(x, 1000)
		wantSpansOk(t, fmt.Sprint("tables ", n), x, 0, 1000, list, slices.Equal(list, spansByHand(chart, 0, 1000)))
	}
}

func TestSpansOkOfDrawnLists(t *testing.T) {
	chance := rand.New(rand.NewSource(2421))
	counts := map[bool]int{}
	for n, x := range promiseTables(2422, 120) {
		x = stretched(chance, x)
		chart := chartUpTo(x, 9000)
		for range 10 {
			from := chance.Intn(3000)
			to := from + 1 + chance.Intn(5000)
			list := spansByHand(chart, from, to)
			if chance.Intn(2) == 0 {
				from += chance.Intn(2)
				to += chance.Intn(2)
			}
			if chance.Intn(2) == 0 {
				at := chance.Intn(len(list))
				list[at] = turnedSpans(list[at])[chance.Intn(16)]
			}
			want := len(list) > 0 && slices.Equal(list, spansByHand(chart, from, to))
			wantSpansOk(t, fmt.Sprint("tables ", n), x, from, to, list, want)
			counts[want]++
		}
	}
	if counts[true] < 100 || counts[false] < 300 {
		t.Error("too few of one kind:", counts)
	}
}

func TestBlameByNumbers(t *testing.T) {
	x := rightTables()
	list := impl.Spans(x, 0, 1000)
	wantBlame(t, x, -1, list...)
	for n, row := range []struct {
		want int
		s    impl.Span
	}{
		{-1, spanOf(70, 110, 0, 2)}, {0, spanOf(69, 110, 0, 2)}, {0, spanOf(70, 111, 0, 2)}, {-1, spanOf(71, 109, 0, 2)}, {0, spanOf(70, 110, 1, 2)},
		{0, spanOf(70, 110, 0, 1)}, {0, spanOf(70, 110, 0, 3)}, {0, spanOf(70, 110, -1, 2)}, {0, spanOf(70, 110, 0, 0)}, {0, spanOf(70, 110, 0, 4)}, {0, spanOf(70, 110, 0, -1)},
		{-1, spanOf(0, 10, -1, 0)}, {0, spanOf(0, 10, 0, 0)}, {0, spanOf(0, 11, -1, 0)}, {-1, spanOf(360, 361, -1, 0)}, {0, spanOf(359, 361, -1, 0)}, {0, spanOf(399, 401, -1, 0)},
		{-1, spanOf(460, 461, 0, 2)}, {0, spanOf(460, 462, 0, 2)}, {0, spanOf(461, 462, 0, 2)}, {-1, spanOf(461, 462, 0, 3)},
		{-1, spanOf(900, 1010, -1, 0)}, {-1, spanOf(999, 1001, -1, 0)}, {0, spanOf(900, 1011, -1, 0)}, {-1, spanOf(999, 1000, -1, 0)}, {-1, spanOf(1000, 1001, -1, 0)},
		{-1, spanOf(49900, 50000, -1, 0)}, {0, spanOf(49900, 50001, -1, 0)}, {0, spanOf(50000, 50000, -1, 0)}, {0, spanOf(50000, 50001, -1, 0)}, {0, spanOf(0, 0, -1, 0)}, {0, spanOf(-1, 1, -1, 0)}, {0, spanOf(-1, 0, -1, 0)},
		{0, spanOf(900, 2010, -1, 0)}, {0, spanOf(70, 1110, 0, 2)}, {0, spanOf(10, 160, 0, 2)},
		{-1, spanOf(900, 1000, -1, 0)}, {0, spanOf(900, 900, -1, 0)}, {0, spanOf(901, 900, -1, 0)}, {0, spanOf(110, 70, 0, 2)}, {0, spanOf(71, 71, 0, 2)},
	} {
		wantBlame(t, x, row.want, row.s)
		if wrong := isWrongByHand(chartUpTo(x, 50000), row.s); wrong != (row.want == 0) {
			t.Errorf("row %d: the model says %v", n, wrong)
		}
	}
}

// Spans that touch, with the same partition on both sides or another one: one that reaches over the border of two slots is never right.
func TestBlameOfSlotsThatTouch(t *testing.T) {
	for _, part := range []int{0, 2} {
		x := touchTables()
		x.Slots[1].Part = part
		chart := chartByHand(x)
		for from := 0; from < 130; from++ {
			for to := from; to < min(from+30, 130); to++ {
				for phase := 1; phase < 4; phase++ {
					wantBlameByHand(t, x, chart, spanOf(from, to, 2, phase))
					wantBlameByHand(t, x, chart, spanOf(from, to, 0, phase))
				}
			}
		}
		wantBlame(t, x, 0, spanOf(17, 19, 2, 3))
		wantBlame(t, x, 0, spanOf(17, 19, 2, 1))
		wantBlame(t, x, -1, spanOf(17, 18, 2, 3), spanOf(18, 19, part, 1))
		wantBlame(t, x, 1, spanOf(17, 18, 2, 3), spanOf(18, 19, 2-part, 1))
	}
}

// One field is turned at each place of a log: the model tells whether a right span comes of it.
func TestBlameOfATurnedSpan(t *testing.T) {
	wrong, right := 0, 0
	for _, maker := range auditMakers() {
		x := maker()
		chart := chartByHand(x)
		for _, log := range [][2]int{{0, min(x.Major+20, 5000)}, {49500, 50000}} {
			list := impl.Spans(x, log[0], log[1])
			for at := range list {
				for _, s := range turnedSpans(list[at]) {
					want := wantBlameByHand(t, x, chart, withSpan(list, at, s)...)
					if want != -1 && want != at {
						t.Fatalf("the model blames %d, and %d was turned", want, at)
					}
					if want == at {
						wrong++
					} else {
						right++
					}
				}
			}
		}
	}
	if wrong < 1000 || right < 100 {
		t.Error("too few of one kind:", wrong, right)
	}
}

// wrongSpans are wrong in each way that the chapter names.
func wrongSpans(s impl.Span) []impl.Span {
	return []impl.Span{
		spanOf(s.From, s.To, s.Part+1, s.Phase), spanOf(s.From, s.To, s.Part, s.Phase+1), spanOf(s.From, s.From, s.Part, s.Phase), spanOf(s.To, s.From, s.Part, s.Phase),
		spanOf(-1, s.To, s.Part, s.Phase), spanOf(s.From, 50001, s.Part, s.Phase), spanOf(50001, 50002, s.Part, s.Phase), spanOf(s.From, -1, s.Part, s.Phase),
		spanOf(s.From, 50000, s.Part, s.Phase), spanOf(0, 50000, s.Part, s.Phase), spanOf(math.MinInt, math.MaxInt, s.Part, s.Phase), spanOf(math.MaxInt, math.MinInt, s.Part, s.Phase),
	}
}

// Promise 24: of two wrong ones the first is told, whatever is wrong with each.
func TestTheFirstWrongSpanIsTold(t *testing.T) {
	for _, maker := range []func() impl.Tables{rightTables, touchTables, mostTables} {
		x := maker()
		list := impl.Spans(x, 700, 1000)
		for a := range list {
			for b := a; b < len(list); b++ {
				for n, first := range wrongSpans(list[a]) {
					wantBlame(t, x, a, withSpan(list, a, first)...)
					second := wrongSpans(list[b])[(n+b)%12]
					wantBlame(t, x, a, withSpan(withSpan(list, b, second), a, first)...)
				}
			}
		}
	}
}

// Each end by itself is no cycle, or is one at a limit.
func TestBlameOfEachEnd(t *testing.T) {
	for _, maker := range auditMakers() {
		x := maker()
		chart := chartByHand(x)
		for _, s := range []impl.Span{spanOf(0, 1, chart[0].part, chart[0].phase), spanOf(49999, 50000, chart[49999].part, chart[49999].phase)} {
			wantBlame(t, x, -1, s)
			for _, c := range append(noCycles(), 0, 1, 2, 49998, 49999, 50000) {
				for _, turned := range []impl.Span{spanOf(c, s.To, s.Part, s.Phase), spanOf(s.From, c, s.Part, s.Phase), spanOf(c, c, s.Part, s.Phase), spanOf(c, c+1, s.Part, s.Phase), spanOf(c-1, c, s.Part, s.Phase)} {
					wantBlameByHand(t, x, chart, turned)
					if want := blameByHand(chart, []impl.Span{turned}); want == 0 {
						wantBlame(t, x, 1, s, turned)
						wantBlame(t, x, 0, turned, s)
					}
				}
			}
		}
		wantBlame(t, x, 0, spanOf(50000, 50001, chart[50000].part, chart[50000].phase))
		wantBlame(t, x, 0, spanOf(49999, 50001, chart[49999].part, chart[49999].phase))
		wantBlame(t, x, 0, spanOf(-1, 1, chart[0].part, chart[0].phase))
		for part := -1; part <= len(x.Parts); part++ {
			for phase := -1; phase < 5; phase++ {
				wantBlame(t, x, 0, spanOf(0, 50000, part, phase))
				wantBlame(t, x, 0, spanOf(50000, 50000, part, phase))
				wantBlame(t, x, 0, spanOf(50000, 0, part, phase))
			}
		}
	}
}

// Spans need not follow one another: some that lie over one another, in any order, are right as long as each is.
func TestBlameLooksAtEachSpanAlone(t *testing.T) {
	chance := rand.New(rand.NewSource(2423))
	for _, maker := range auditMakers() {
		x := maker()
		list := slices.Concat(impl.Spans(x, 0, 900), impl.Spans(x, 100, 1400), impl.Spans(x, 49000, 50000))
		chance.Shuffle(len(list), func(a int, b int) { list[a], list[b] = list[b], list[a] })
		wantBlame(t, x, -1, list...)
		wantBlame(t, x, -1, list[3:]...)
		wantBlame(t, x, len(list)/2, withSpan(list, len(list)/2, spanOf(7, 7, 0, 0))...)
		wantBlame(t, x, -1)
		wantBlame(t, x, -1, []impl.Span{}...)
	}
}

// Room that nobody has goes on behind a frame, and so may a span that is asked of Blame; Spans would have cut it.
func TestBlameOfSpansOverABorder(t *testing.T) {
	for _, start := range []int{0, 1, 2491, 4981, 4982} {
		x := changed(leastTables, func(x *impl.Tables) { x.Major, x.Slots[0].Start = 5000, start })
		chart := chartByHand(x)
		for _, frame := range []int{1, 5, 9} {
			end, begin := 5000*(frame-1)+start+18, 5000*frame+start
			if end == begin {
				t.Fatal("no room at all")
			}
			wantBlame(t, x, -1, spanOf(end, begin, -1, 0))
			wantBlame(t, x, 0, spanOf(end-1, begin, -1, 0))
			wantBlame(t, x, 0, spanOf(end, begin+1, -1, 0))
			wantBlame(t, x, 0, spanOf(end, begin, 0, 0))
			wantBlameByHand(t, x, chart, spanOf(5000*frame-1, 5000*frame+1, -1, 0))
			// The next room is of the same sort, but a slot stands between.
			wantBlame(t, x, 0, spanOf(end, min(begin+4000, 50000), -1, 0))
		}
	}
}

func TestBlameOfManySpans(t *testing.T) {
	x := rightTables()
	s, wrong := spanOf(70, 110, 0, 2), spanOf(70, 111, 0, 2)
	list := slices.Repeat([]impl.Span{s}, 5000)
	wantBlame(t, x, -1, list...)
	for _, at := range []int{0, 1, 2500, 4998, 4999} {
		wantBlame(t, x, at, withSpan(list, at, wrong)...)
		wantBlame(t, x, -1, append(withSpan(list, at, wrong), s)...)
		wantBlame(t, x, -1, append(withSpan(list, at, wrong), wrong)...)
	}
	wantBlame(t, x, 4998, withSpan(list, 4998, wrong)[:4999]...)
	for _, count := range []int{5001, 5002, 10000, 1<<16 + 1} {
		wantBlame(t, x, -1, slices.Repeat([]impl.Span{wrong}, count)...)
		wantBlame(t, x, -1, make([]impl.Span, count)...)
	}
	wantBlame(t, x, 0, make([]impl.Span, 5000)...)
}

// As many spans as there may be, each of them as long as it can be.
func TestBlameOfManyLongSpans(t *testing.T) {
	x := changed(leastTables, func(x *impl.Tables) { x.Major, x.Slots[0].Start = 5000, 2491 })
	list := slices.Repeat([]impl.Span{spanOf(2509, 7491, -1, 0)}, 5000)
	wantBlame(t, x, -1, list...)
	wantBlame(t, x, 4999, withSpan(list, 4999, spanOf(2509, 7492, -1, 0))...)
	wantBlame(t, x, 4999, withSpan(list, 4999, spanOf(2509, 50000, -1, 0))...)
	wantBlame(t, frameTables(), -1, slices.Repeat([]impl.Span{spanOf(1000, 4580, 0, 2)}, 5000)...)
}

func TestBlameOfTablesThatAreNotSound(t *testing.T) {
	list := impl.Spans(rightTables(), 0, 1000)
	for _, x := range wrongTables() {
		wantBlame(t, x, -1, list...)
		wantBlame(t, x, -1)
		wantBlame(t, x, -1, impl.Span{})
		wantBlame(t, x, -1, wrongSpans(list[0])...)
		wantBlame(t, x, -1, slices.Repeat([]impl.Span{spanOf(5, 4, 0, 0)}, 5000)...)
		wantBlame(t, x, -1, slices.Repeat([]impl.Span{spanOf(5, 4, 0, 0)}, 5001)...)
	}
	for _, maker := range tableMakers() {
		x := maker()
		for _, number := range numbersIn(&x) {
			was := *number
			for _, n := range append(oddInts(), was-4, was-1, was+1, was+4) {
				*number = n
				want := -1
				if soundByHand(x) {
					want = 0
				}
				wantBlame(t, x, want, spanOf(5, 5, -1, 0), spanOf(-1, 6, 0, 1))
			}
			*number = was
		}
	}
}

func TestBlameOfDrawnLists(t *testing.T) {
	chance := rand.New(rand.NewSource(2424))
	counts := map[bool]int{}
	for n, x := range promiseTables(2425, 150) {
		x = stretched(chance, x)
		if n%5 == 0 {
			disturb(chance, &x)
		}
		is, chart := soundByHand(x), []moment{}
		if is {
			chart = chartUpTo(x, 9000)
		}
		for range 10 {
			from := chance.Intn(3000)
			list := []impl.Span{spanOf(from, from+3, chance.Intn(3)-1, chance.Intn(4))}
			if is {
				list = spansByHand(chart, from, from+1+chance.Intn(5000))
			}
			for range chance.Intn(3) {
				at := chance.Intn(len(list))
				list[at] = turnedSpans(list[at])[chance.Intn(16)]
			}
			if !is {
				wantBlame(t, x, -1, list...)
				continue
			}
			counts[wantBlameByHand(t, x, chart, list...) < 0]++
		}
	}
	if counts[true] < 300 || counts[false] < 300 {
		t.Error("too few of one kind:", counts)
	}
}

// Promise 24: a wrong span is told, held against what chapter 15 tells cycle by cycle.
func TestAWrongSpanIsTold(t *testing.T) {
	chance := rand.New(rand.NewSource(2426))
	counts := map[bool]int{}
	for _, x := range promiseTables(2427, 60) {
		x = stretched(chance, x)
		for range 20 {
			from := chance.Intn(49900)
			now := askedAt(x, from)
			s := spanOf(from, from+1+chance.Intn(90), now[1], now[2])
			is := true
			for c := s.From; c < s.To; c++ {
				at := askedAt(x, c)
				is = is && at[1] == s.Part && at[2] == s.Phase
			}
			want := -1
			if !is {
				want = 2
			}
			wantBlame(t, x, want, slices.Concat(impl.Spans(x, 0, 1), impl.Spans(x, 9, 10), []impl.Span{s, {}})[:3]...)
			counts[is]++
		}
	}
	if counts[true] < 200 || counts[false] < 200 {
		t.Error("too few of one kind:", counts)
	}
}

// Promise 26: neither the tables nor the spans are written into, nor is the room behind them, and that room is not looked at.
func TestBlameWritesIntoNothing(t *testing.T) {
	for n, x := range tablesOfAllSorts(2428) {
		given, told := roomyTables(x)
		from := 90 * n
		for _, spans := range [][]impl.Span{nil, impl.Spans(x, from, from+800), impl.Spans(rightTables(), 0, 1000), {spanOf(9, 3, 1, 1)}} {
			for _, behind := range append(impl.Spans(x, from+800, from+801), impl.Span{}) {
				list, whole := roomed(spans, behind)
				before, beforeSpans := told(), slices.Clone(whole)
				blamed := impl.Blame(given, list)
				is := impl.SpansOk(given, from, from+800, list)
				isMore := impl.SpansOk(given, from, from+801, list)
				if told() != before || !slices.Equal(whole, beforeSpans) {
					t.Fatalf("%s\nbecame\n%s, or %v became %v", before, told(), beforeSpans, whole)
				}
				wantNumber(t, "with room behind, Blame", blamed, impl.Blame(x, slices.Clone(spans)))
				wantSpansOk(t, "with room behind", x, from, from+800, slices.Clone(spans), is)
				wantSpansOk(t, "with room behind", x, from, from+801, slices.Clone(spans), isMore)
			}
		}
	}
}
