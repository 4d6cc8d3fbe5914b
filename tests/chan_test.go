package tests

import (
	"math"
	"math/rand"
	"slices"
	"testing"

	"loop.example/g00076/impl"
)

func queueRow(depth int) impl.ChanRow {
	return impl.ChanRow{Kind: impl.ChanQueue, From: 2, To: 5, Depth: depth}
}

func sampleRow() impl.ChanRow {
	return impl.ChanRow{Kind: impl.ChanSample, From: 5, To: 0}
}

// rowsOfEachDepth are the sampling row and a queuing one of each depth.
func rowsOfEachDepth() []impl.ChanRow {
	list := []impl.ChanRow{sampleRow()}
	for depth := 1; depth <= 8; depth++ {
		list = append(list, queueRow(depth))
	}
	return list
}

// wrongChanRows have one wrong field each, whatever the ends beside them.
func wrongChanRows() []impl.ChanRow {
	list := []impl.ChanRow{{}, {Kind: 1, From: 2, To: 5}, {Kind: 0, From: 2, To: 5, Depth: 1}, {Kind: 1, From: 2, To: 5, Depth: 9}, {Kind: 1, From: 2, To: 5, Depth: -1}}
	for _, kind := range append(oddInts(), -1, 2, 3) {
		list = append(list, impl.ChanRow{Kind: kind, From: 2, To: 5}, impl.ChanRow{Kind: kind, From: 2, To: 5, Depth: 3})
	}
	for _, part := range append(oddInts(), -1, 6, 7) {
		list = append(list, impl.ChanRow{Kind: 1, From: part, To: 5, Depth: 3}, impl.ChanRow{Kind: 1, From: 2, To: part, Depth: 3})
		list = append(list, impl.ChanRow{Kind: 0, From: part, To: 5}, impl.ChanRow{Kind: 0, From: 2, To: part})
	}
	for part := range 6 {
		list = append(list, impl.ChanRow{Kind: 1, From: part, To: part, Depth: 3}, impl.ChanRow{Kind: 0, From: part, To: part})
	}
	for _, depth := range append(oddInts(), -1, 9, 10) {
		list = append(list, impl.ChanRow{Kind: 1, From: 2, To: 5, Depth: depth}, impl.ChanRow{Kind: 0, From: 2, To: 5, Depth: depth})
	}
	return list
}

// numbered are words that tell by themselves which list they stand in and where.
func numbered(first uint32, count int) []uint32 {
	list := []uint32{}
	for at := range count {
		list = append(list, first+uint32(at))
	}
	return list
}

func outOf(held int, words int) impl.OutEnd {
	return impl.OutEnd{Held: held, Sent: numbered(100, words)}
}

func inOf(words int) impl.InEnd {
	return impl.InEnd{Ready: numbered(200, words)}
}

func someHelds() []int {
	list := oddInts()
	for held := -3; held <= 11; held++ {
		list = append(list, held)
	}
	return list
}

// someOuts are the sender's ends of each Held with up to more words than any channel takes.
func someOuts() []impl.OutEnd {
	list := []impl.OutEnd{}
	for _, held := range someHelds() {
		for words := range 12 {
			list = append(list, outOf(held, words))
		}
	}
	return list
}

// outOkByHand is for a right row alone, and goes through what the two may be.
func outOkByHand(r impl.ChanRow, held int, words int) bool {
	if r.Kind == 0 {
		return held == 0 && (words == 0 || words == 1)
	}
	for allowed := 0; allowed <= r.Depth; allowed++ {
		if held == allowed && words <= r.Depth-allowed {
			return true
		}
	}
	return false
}

func inOkByHand(r impl.ChanRow, words int) bool {
	if r.Kind == 0 {
		return words < 2
	}
	return words <= r.Depth
}

func sameOut(a impl.OutEnd, b impl.OutEnd) bool {
	return a.Held == b.Held && slices.Equal(a.Sent, b.Sent)
}

func sameIn(a impl.InEnd, b impl.InEnd) bool {
	return slices.Equal(a.Ready, b.Ready)
}

func wantRoom(t *testing.T, r impl.ChanRow, o impl.OutEnd, want int) {
	t.Helper()
	if got := impl.Room(r, o); got != want {
		t.Errorf("Room(%v, %v) = %d, not %d", r, o, got, want)
	}
}

func wantSend(t *testing.T, r impl.ChanRow, o impl.OutEnd, w uint32, after impl.OutEnd, code int) {
	t.Helper()
	gotAfter, gotCode := impl.SendOn(r, o, w)
	if !sameOut(gotAfter, after) || gotCode != code {
		t.Errorf("SendOn(%v, %v, %d) = %v, %d, not %v, %d", r, o, w, gotAfter, gotCode, after, code)
	}
}

func wantRecv(t *testing.T, r impl.ChanRow, i impl.InEnd, after impl.InEnd, w uint32, code int) {
	t.Helper()
	gotAfter, got, gotCode := impl.RecvOn(r, i)
	if !sameIn(gotAfter, after) || got != w || gotCode != code {
		t.Errorf("RecvOn(%v, %v) = %v, %d, %d, not %v, %d, %d", r, i, gotAfter, got, gotCode, after, w, code)
	}
}

func wantBorder(t *testing.T, r impl.ChanRow, o impl.OutEnd, i impl.InEnd, held int, ready []uint32, crossed []uint32) {
	t.Helper()
	gotOut, gotIn, got := impl.Border(r, o, i)
	if gotOut.Held != held || len(gotOut.Sent) != 0 || !slices.Equal(gotIn.Ready, ready) || !slices.Equal(got, crossed) {
		t.Errorf("Border(%v, %v, %v) = %v, %v, %v, not %d held, %v ready, %v crossed", r, o, i, gotOut, gotIn, got, held, ready, crossed)
	}
}

func wantDiscard(t *testing.T, r impl.ChanRow, o impl.OutEnd, held int) {
	t.Helper()
	if got := impl.Discard(r, o); got.Held != held || len(got.Sent) != 0 {
		t.Errorf("Discard(%v, %v) = %v, not %d held and nothing sent", r, o, got, held)
	}
}

func wantPlay(t *testing.T, r impl.ChanRow, ops []impl.ChanOp, want []impl.ChanSaid) {
	t.Helper()
	if got := impl.ChanPlay(r, ops); !slices.Equal(got, want) {
		t.Errorf("ChanPlay(%v, %d ops) = %v, not %v", r, len(ops), got, want)
	}
}

func sending(w uint32) impl.ChanOp {
	return impl.ChanOp{Kind: impl.ChanSend, Word: w}
}

func TestChannelConstants(t *testing.T) {
	got := []int{impl.MaxParts, impl.MaxDepth, impl.MaxOps, impl.ChanSample, impl.ChanQueue, impl.ChanDone, impl.ChanEmpty, impl.ChanFull, impl.ChanNone, impl.ChanSend, impl.ChanRecv, impl.ChanBorder, impl.ChanDiscard}
	want := []int{6, 8, 1000, 0, 1, 0, 1, 2, 3, 0, 1, 2, 3}
	if !slices.Equal(got, want) {
		t.Error(got, want)
	}
}

func TestChanOkOfEachKindAndDepth(t *testing.T) {
	depths := append(oddInts(), -9, -2, -1, 0, 1, 2, 3, 4, 5, 6, 7, 8, 9, 10, 16, 1<<8+1, 1<<32+5, math.MaxInt-1)
	for _, kind := range append(oddInts(), -2, -1, 0, 1, 2, 3, 1<<8+1, 1<<32+1, math.MaxInt-1) {
		for _, depth := range depths {
			want := kind == 0 && depth == 0
			for allowed := 1; allowed < 9; allowed++ {
				want = want || kind == 1 && depth == allowed
			}
			if r := (impl.ChanRow{Kind: kind, From: 3, To: 4, Depth: depth}); impl.ChanOk(r) != want {
				t.Errorf("ChanOk(%v) is not %v", r, want)
			}
		}
	}
}

func TestChanOkOfEachPair(t *testing.T) {
	parts := append(oddInts(), -6, -2, -1, 0, 1, 2, 3, 4, 5, 6, 7, 12, 1<<8+1, 1<<32+5, math.MaxInt-1)
	right := 0
	for _, from := range parts {
		for _, to := range parts {
			known := []int{0, 1, 2, 3, 4, 5}
			want := slices.Contains(known, from) && slices.Contains(known, to) && from != to
			for _, r := range []impl.ChanRow{{Kind: 0, From: from, To: to}, {Kind: 1, From: from, To: to, Depth: 1}, {Kind: 1, From: from, To: to, Depth: 8}} {
				if impl.ChanOk(r) != want {
					t.Errorf("ChanOk(%v) is not %v", r, want)
				}
			}
			if want {
				right++
			}
		}
	}
	if right != 30 {
		t.Error("pairs that are right:", right)
	}
}

func TestChanRowsThatAreWrong(t *testing.T) {
	for _, r := range wrongChanRows() {
		if impl.ChanOk(r) {
			t.Errorf("ChanOk(%v) is true", r)
		}
	}
}

func TestOutOkByNumbers(t *testing.T) {
	s, q := sampleRow(), queueRow(3)
	for _, o := range []impl.OutEnd{{}, outOf(0, 1)} {
		if !impl.OutOk(s, o) {
			t.Errorf("sampling: OutOk(%v) is false", o)
		}
	}
	for _, o := range []impl.OutEnd{outOf(0, 2), outOf(1, 0), outOf(-1, 0), outOf(-1, 1), outOf(-1, 2), outOf(1, 1), outOf(math.MaxInt, 1), outOf(math.MinInt, 1)} {
		if impl.OutOk(s, o) {
			t.Errorf("sampling: OutOk(%v) is true", o)
		}
	}
	for _, o := range []impl.OutEnd{{}, outOf(0, 3), outOf(1, 2), outOf(2, 1), outOf(3, 0)} {
		if !impl.OutOk(q, o) {
			t.Errorf("queuing: OutOk(%v) is false", o)
		}
	}
	for _, o := range []impl.OutEnd{outOf(0, 4), outOf(1, 3), outOf(2, 2), outOf(3, 1), outOf(4, 0), outOf(-1, 0), outOf(-1, 3), outOf(-1, 4), outOf(math.MaxInt, 0), outOf(math.MaxInt, 1), outOf(math.MaxInt, 3), outOf(math.MinInt, 0), outOf(math.MinInt, 3)} {
		if impl.OutOk(q, o) {
			t.Errorf("queuing: OutOk(%v) is true", o)
		}
	}
}

func TestEachOutEndAndItsRoom(t *testing.T) {
	for _, r := range rowsOfEachDepth() {
		for _, o := range someOuts() {
			right, room := outOkByHand(r, o.Held, len(o.Sent)), 0
			switch {
			case right && r.Kind == 0:
				room = 1
			case right:
				for outOkByHand(r, o.Held, len(o.Sent)+room+1) {
					room++
				}
			}
			if impl.OutOk(r, o) != right {
				t.Errorf("OutOk(%v, %v) is not %v", r, o, right)
			}
			wantRoom(t, r, o, room)
		}
	}
}

func TestEachInEnd(t *testing.T) {
	for _, r := range rowsOfEachDepth() {
		for words := range 12 {
			if want := inOkByHand(r, words); impl.InOk(r, inOf(words)) != want {
				t.Errorf("InOk(%v, %d words) is not %v", r, words, want)
			}
		}
		if !impl.InOk(r, impl.InEnd{}) {
			t.Errorf("InOk(%v, nothing) is false", r)
		}
	}
}

func TestRoomByNumbers(t *testing.T) {
	wantRoom(t, queueRow(8), outOf(0, 0), 8)
	wantRoom(t, queueRow(8), outOf(3, 2), 3)
	wantRoom(t, queueRow(8), outOf(8, 0), 0)
	wantRoom(t, queueRow(8), outOf(0, 8), 0)
	wantRoom(t, queueRow(8), outOf(1, 8), 0)
	wantRoom(t, queueRow(8), outOf(-1, 8), 0)
	wantRoom(t, queueRow(1), outOf(0, 0), 1)
	wantRoom(t, sampleRow(), outOf(0, 0), 1)
	wantRoom(t, sampleRow(), outOf(0, 1), 1)
	wantRoom(t, sampleRow(), outOf(0, 2), 0)
	wantRoom(t, sampleRow(), outOf(1, 0), 0)
	wantRoom(t, queueRow(3), outOf(math.MinInt, 0), 0)
	wantRoom(t, queueRow(3), outOf(math.MaxInt, 3), 0)
}

func TestEndsOfAWrongRow(t *testing.T) {
	for _, r := range wrongChanRows() {
		for _, o := range []impl.OutEnd{{}, outOf(0, 1), outOf(1, 0), outOf(2, 1), outOf(-1, 0)} {
			if impl.OutOk(r, o) {
				t.Errorf("OutOk(%v, %v) is true", r, o)
			}
			wantRoom(t, r, o, 0)
			wantSend(t, r, o, 7, impl.OutEnd{}, impl.ChanNone)
			wantDiscard(t, r, o, 0)
			wantBorder(t, r, o, inOf(0), 0, nil, nil)
			wantBorder(t, r, o, inOf(1), 0, nil, nil)
		}
		for words := range 4 {
			if impl.InOk(r, inOf(words)) {
				t.Errorf("InOk(%v, %d words) is true", r, words)
			}
			wantRecv(t, r, inOf(words), impl.InEnd{}, 0, impl.ChanNone)
		}
		for _, ops := range [][]impl.ChanOp{nil, {sending(3)}, {{Kind: impl.ChanRecv}, {Kind: impl.ChanBorder}}} {
			wantPlay(t, r, ops, nil)
		}
	}
}

func TestSendOnAQueue(t *testing.T) {
	q := queueRow(3)
	wantSend(t, q, impl.OutEnd{}, 7, impl.OutEnd{Sent: []uint32{7}}, impl.ChanDone)
	wantSend(t, q, outOf(1, 1), 7, impl.OutEnd{Held: 1, Sent: []uint32{100, 7}}, impl.ChanDone)
	wantSend(t, q, outOf(0, 2), 0, impl.OutEnd{Sent: []uint32{100, 101, 0}}, impl.ChanDone)
	wantSend(t, q, outOf(2, 0), math.MaxUint32, impl.OutEnd{Held: 2, Sent: []uint32{math.MaxUint32}}, impl.ChanDone)
	wantSend(t, q, outOf(2, 1), 7, outOf(2, 1), impl.ChanFull)
	wantSend(t, q, outOf(3, 0), 7, outOf(3, 0), impl.ChanFull)
	wantSend(t, q, outOf(0, 3), 7, outOf(0, 3), impl.ChanFull)
}

func TestSendOnASample(t *testing.T) {
	s := sampleRow()
	wantSend(t, s, impl.OutEnd{}, 7, impl.OutEnd{Sent: []uint32{7}}, impl.ChanDone)
	wantSend(t, s, outOf(0, 1), 7, impl.OutEnd{Sent: []uint32{7}}, impl.ChanDone)
	once, _ := impl.SendOn(s, impl.OutEnd{}, 8)
	wantSend(t, s, once, 9, impl.OutEnd{Sent: []uint32{9}}, impl.ChanDone)
	wantSend(t, s, once, 8, impl.OutEnd{Sent: []uint32{8}}, impl.ChanDone)
}

func TestSendOnEachEnd(t *testing.T) {
	for _, r := range rowsOfEachDepth() {
		for _, o := range someOuts() {
			switch {
			case !outOkByHand(r, o.Held, len(o.Sent)):
				wantSend(t, r, o, 7, impl.OutEnd{}, impl.ChanNone)
			case r.Kind == 0:
				wantSend(t, r, o, 7, impl.OutEnd{Sent: []uint32{7}}, impl.ChanDone)
			case o.Held+len(o.Sent) == r.Depth:
				wantSend(t, r, o, 7, o, impl.ChanFull)
			default:
				wantSend(t, r, o, 7, impl.OutEnd{Held: o.Held, Sent: append(numbered(100, len(o.Sent)), 7)}, impl.ChanDone)
			}
		}
	}
}

func TestRecvOnAQueue(t *testing.T) {
	q := queueRow(3)
	wantRecv(t, q, impl.InEnd{}, impl.InEnd{}, 0, impl.ChanEmpty)
	wantRecv(t, q, inOf(1), impl.InEnd{}, 200, impl.ChanDone)
	wantRecv(t, q, inOf(3), impl.InEnd{Ready: []uint32{201, 202}}, 200, impl.ChanDone)
	wantRecv(t, q, inOf(4), impl.InEnd{}, 0, impl.ChanNone)
	wantRecv(t, q, impl.InEnd{Ready: []uint32{0, 5}}, impl.InEnd{Ready: []uint32{5}}, 0, impl.ChanDone)
}

func TestRecvOnASample(t *testing.T) {
	s := sampleRow()
	wantRecv(t, s, impl.InEnd{}, impl.InEnd{}, 0, impl.ChanEmpty)
	wantRecv(t, s, inOf(1), inOf(1), 200, impl.ChanDone)
	wantRecv(t, s, inOf(2), impl.InEnd{}, 0, impl.ChanNone)
	i := inOf(1)
	for range 5 {
		wantRecv(t, s, i, inOf(1), 200, impl.ChanDone)
		i, _, _ = impl.RecvOn(s, i)
	}
}

func TestRecvOnEachEnd(t *testing.T) {
	for _, r := range rowsOfEachDepth() {
		for words := range 12 {
			switch {
			case !inOkByHand(r, words):
				wantRecv(t, r, inOf(words), impl.InEnd{}, 0, impl.ChanNone)
			case words == 0:
				wantRecv(t, r, inOf(0), inOf(0), 0, impl.ChanEmpty)
			case r.Kind == 0:
				wantRecv(t, r, inOf(words), inOf(words), 200, impl.ChanDone)
			default:
				wantRecv(t, r, inOf(words), impl.InEnd{Ready: numbered(201, words-1)}, 200, impl.ChanDone)
			}
		}
	}
}

func TestBorderOfAQueue(t *testing.T) {
	q := queueRow(4)
	wantBorder(t, q, impl.OutEnd{}, impl.InEnd{}, 0, nil, nil)
	wantBorder(t, q, outOf(0, 2), inOf(0), 2, []uint32{100, 101}, []uint32{100, 101})
	wantBorder(t, q, outOf(2, 2), inOf(2), 4, []uint32{200, 201, 100, 101}, []uint32{100, 101})
	wantBorder(t, q, outOf(2, 2), inOf(1), 3, []uint32{200, 100, 101}, []uint32{100, 101})
	wantBorder(t, q, outOf(2, 2), inOf(0), 2, []uint32{100, 101}, []uint32{100, 101})
	wantBorder(t, q, outOf(4, 0), inOf(3), 3, []uint32{200, 201, 202}, nil)
	wantBorder(t, q, outOf(4, 0), inOf(0), 0, nil, nil)
	wantBorder(t, q, outOf(2, 0), inOf(3), 0, nil, nil)
	wantBorder(t, q, outOf(0, 1), inOf(1), 0, nil, nil)
	wantBorder(t, q, outOf(2, 3), inOf(1), 0, nil, nil)
	wantBorder(t, q, outOf(-1, 1), inOf(0), 0, nil, nil)
	wantBorder(t, q, outOf(4, 0), inOf(5), 0, nil, nil)
	wantBorder(t, q, outOf(math.MaxInt, 1), inOf(1), 0, nil, nil)
}

func TestBorderOfASample(t *testing.T) {
	s := sampleRow()
	wantBorder(t, s, impl.OutEnd{}, impl.InEnd{}, 0, nil, nil)
	wantBorder(t, s, outOf(0, 1), inOf(0), 0, []uint32{100}, []uint32{100})
	wantBorder(t, s, outOf(0, 1), inOf(1), 0, []uint32{100}, []uint32{100})
	wantBorder(t, s, outOf(0, 0), inOf(1), 0, []uint32{200}, nil)
	wantBorder(t, s, outOf(0, 2), inOf(1), 0, nil, nil)
	wantBorder(t, s, outOf(1, 0), inOf(1), 0, nil, nil)
	wantBorder(t, s, outOf(1, 1), inOf(1), 0, nil, nil)
	wantBorder(t, s, outOf(0, 1), inOf(2), 0, nil, nil)
	wantBorder(t, s, outOf(0, 0), inOf(2), 0, nil, nil)
}

func TestBorderOfEachPairOfEnds(t *testing.T) {
	for _, r := range rowsOfEachDepth() {
		for _, o := range someOuts() {
			for words := range 11 {
				switch {
				case !outOkByHand(r, o.Held, len(o.Sent)) || !inOkByHand(r, words):
					wantBorder(t, r, o, inOf(words), 0, nil, nil)
				case r.Kind == 1 && words > o.Held:
					wantBorder(t, r, o, inOf(words), 0, nil, nil)
				case r.Kind == 1:
					wantBorder(t, r, o, inOf(words), words+len(o.Sent), slices.Concat(numbered(200, words), o.Sent), o.Sent)
				case len(o.Sent) == 1:
					wantBorder(t, r, o, inOf(words), 0, []uint32{100}, []uint32{100})
				default:
					wantBorder(t, r, o, inOf(words), 0, numbered(200, words), nil)
				}
			}
		}
	}
}

func TestDiscardKeepsHeld(t *testing.T) {
	wantDiscard(t, queueRow(4), outOf(3, 1), 3)
	wantDiscard(t, queueRow(4), outOf(4, 0), 4)
	wantDiscard(t, queueRow(4), outOf(0, 4), 0)
	wantDiscard(t, queueRow(4), outOf(3, 2), 0)
	wantDiscard(t, sampleRow(), outOf(0, 1), 0)
	wantDiscard(t, sampleRow(), outOf(1, 0), 0)
	for _, r := range rowsOfEachDepth() {
		for _, o := range someOuts() {
			held := 0
			if outOkByHand(r, o.Held, len(o.Sent)) {
				held = o.Held
			}
			wantDiscard(t, r, o, held)
		}
	}
}

// Held is told anew at a border alone: neither a read nor a send nor a discard gives a sender to know of the other end.
func TestHeldChangesAtABorderAlone(t *testing.T) {
	q := queueRow(3)
	o, i, _ := impl.Border(q, outOf(0, 3), inOf(0))
	for range 3 {
		i, _, _ = impl.RecvOn(q, i)
		wantSend(t, q, o, 7, outOf(3, 0), impl.ChanFull)
		wantDiscard(t, q, o, 3)
	}
	o, i, _ = impl.Border(q, o, i)
	wantSend(t, q, o, 7, impl.OutEnd{Sent: []uint32{7}}, impl.ChanDone)
}

// What was read makes room for a sender only behind the next border.
func TestPlayOfADeepQueue(t *testing.T) {
	recv, border, drop := impl.ChanOp{Kind: impl.ChanRecv}, impl.ChanOp{Kind: impl.ChanBorder}, impl.ChanOp{Kind: impl.ChanDiscard}
	ops := []impl.ChanOp{sending(11), sending(12), recv, border, sending(13), recv, recv, recv, sending(14), border, sending(15), sending(16), drop, sending(17), border, recv, recv}
	want := []impl.ChanSaid{{}, {}, {Code: impl.ChanEmpty}, {}, {Code: impl.ChanFull}, {Word: 11}, {Word: 12}, {Code: impl.ChanEmpty}, {Code: impl.ChanFull}, {}, {}, {}, {}, {}, {}, {Word: 17}, {Code: impl.ChanEmpty}}
	wantPlay(t, queueRow(2), ops, want)
}

func TestPlayOfASample(t *testing.T) {
	recv, border, drop := impl.ChanOp{Kind: impl.ChanRecv}, impl.ChanOp{Kind: impl.ChanBorder}, impl.ChanOp{Kind: impl.ChanDiscard}
	ops := []impl.ChanOp{border, recv, sending(11), sending(12), recv, border, recv, recv, sending(13), drop, recv, border, recv, sending(0), border, recv}
	want := []impl.ChanSaid{{}, {Code: impl.ChanEmpty}, {}, {}, {Code: impl.ChanEmpty}, {}, {Word: 12}, {Word: 12}, {}, {}, {Word: 12}, {}, {Word: 12}, {}, {}, {}}
	wantPlay(t, sampleRow(), ops, want)
}

// A word beside an op that sends none is not looked at.
func TestPlayOfWordsThatAreNotSent(t *testing.T) {
	for _, r := range rowsOfEachDepth() {
		ops := []impl.ChanOp{{Kind: impl.ChanRecv, Word: 5}, {Kind: impl.ChanBorder, Word: 6}, {Kind: impl.ChanDiscard, Word: 7}, {Kind: impl.ChanRecv, Word: 8}}
		wantPlay(t, r, ops, []impl.ChanSaid{{Code: impl.ChanEmpty}, {}, {}, {Code: impl.ChanEmpty}})
	}
}

func TestPlayOfHowManyOps(t *testing.T) {
	for _, r := range rowsOfEachDepth() {
		wantPlay(t, r, nil, nil)
		wantPlay(t, r, []impl.ChanOp{}, nil)
		wantPlay(t, r, []impl.ChanOp{sending(4)}, []impl.ChanSaid{{}})
		wantPlay(t, r, []impl.ChanOp{{Kind: impl.ChanRecv}}, []impl.ChanSaid{{Code: impl.ChanEmpty}})
		recv := slices.Repeat([]impl.ChanOp{{Kind: impl.ChanRecv}}, 1002)
		for _, count := range []int{999, 1000} {
			wantPlay(t, r, recv[:count], slices.Repeat([]impl.ChanSaid{{Code: impl.ChanEmpty}}, count))
		}
		wantPlay(t, r, recv[:1001], nil)
		wantPlay(t, r, recv, nil)
	}
}

func TestPlayOfAWrongKind(t *testing.T) {
	for _, kind := range append(oddInts(), -2, -1, 4, 5, 1<<32+2, -1<<32+3) {
		for _, r := range rowsOfEachDepth() {
			wrong := impl.ChanOp{Kind: kind, Word: 3}
			wantPlay(t, r, []impl.ChanOp{wrong}, nil)
			wantPlay(t, r, []impl.ChanOp{wrong, sending(1), {Kind: impl.ChanBorder}}, nil)
			wantPlay(t, r, []impl.ChanOp{sending(1), wrong, {Kind: impl.ChanBorder}}, nil)
			wantPlay(t, r, []impl.ChanOp{sending(1), {Kind: impl.ChanBorder}, {Kind: impl.ChanRecv}, wrong}, nil)
		}
	}
}

// drawnOps send words that are all different, and lean to what a draw says, so that channels run full as well as dry.
func drawnOps(chance *rand.Rand, count int) []impl.ChanOp {
	lean := []int{0, 0, 0, 1, 1, 1, 2, 3}
	for range 4 {
		lean = append(lean, chance.Intn(3))
	}
	ops := []impl.ChanOp{}
	for at := range count {
		ops = append(ops, impl.ChanOp{Kind: lean[chance.Intn(len(lean))], Word: uint32(at) * 2654435761})
	}
	return ops
}

// queueByHand keeps all words that ever crossed and how many of them were read; no end is kept at all.
func queueByHand(depth int, ops []impl.ChanOp) []impl.ChanSaid {
	crossed, since, read, unread := []uint32{}, []uint32{}, 0, 0
	said := []impl.ChanSaid{}
	for _, op := range ops {
		next := impl.ChanSaid{}
		switch op.Kind {
		case 0:
			if unread+len(since) == depth {
				next.Code = 2
			} else {
				since = append(since, op.Word)
			}
		case 1:
			if read == len(crossed) {
				next.Code = 1
			} else {
				next.Word = crossed[read]
				read++
			}
		case 2:
			crossed, since = append(crossed, since...), nil
			unread = len(crossed) - read
		case 3:
			since = nil
		}
		said = append(said, next)
	}
	return said
}

// sampleByHand looks back from each read for the border and for the last word ahead of one that was not thrown away.
func sampleByHand(ops []impl.ChanOp) []impl.ChanSaid {
	said := []impl.ChanSaid{}
	for at, op := range ops {
		next := impl.ChanSaid{}
		if op.Kind == 1 {
			next = shownAhead(ops[:at])
		}
		said = append(said, next)
	}
	return said
}

func shownAhead(ops []impl.ChanOp) impl.ChanSaid {
	crosses := false
	for at := len(ops) - 1; at >= 0; at-- {
		switch {
		case ops[at].Kind == 2:
			crosses = true
		case ops[at].Kind == 3:
			crosses = false
		case ops[at].Kind == 0 && crosses:
			return impl.ChanSaid{Word: ops[at].Word}
		}
	}
	return impl.ChanSaid{Code: 1}
}

// Promise 11 over longer scripts of both kinds.
func TestPlaysAsByHand(t *testing.T) {
	chance := rand.New(rand.NewSource(11))
	for range 300 {
		ops := drawnOps(chance, 1+chance.Intn(1000))
		for depth := 1; depth <= 8; depth++ {
			wantPlay(t, queueRow(depth), ops, queueByHand(depth, ops))
		}
		wantPlay(t, sampleRow(), ops, sampleByHand(ops))
	}
}

// Promise 11: the words that were read are the ones that were taken, without those that were thrown away, from the first on.
func TestAQueueHandsOnEachWordOnceInOrder(t *testing.T) {
	chance := rand.New(rand.NewSource(12))
	fulls := 0
	for range 200 {
		r, ops := queueRow(1+chance.Intn(8)), drawnOps(chance, 1000)
		said := impl.ChanPlay(r, ops)
		if len(said) != len(ops) {
			t.Fatal(len(said), "answers")
		}
		sent, since, read := []uint32{}, []uint32{}, []uint32{}
		for at, op := range ops {
			switch {
			case op.Kind == impl.ChanSend && said[at].Code == impl.ChanDone:
				since = append(since, op.Word)
			case op.Kind == impl.ChanSend:
				fulls++
			case op.Kind == impl.ChanRecv && said[at].Code == impl.ChanDone:
				read = append(read, said[at].Word)
			case op.Kind == impl.ChanBorder:
				sent, since = append(sent, since...), nil
			case op.Kind == impl.ChanDiscard:
				since = nil
			}
			if len(read) > len(sent) || !slices.Equal(read, sent[:len(read)]) {
				t.Fatalf("%v: at op %d %v was read where %v crossed", r, at, read, sent)
			}
		}
	}
	if fulls < 1000 {
		t.Error("too few sends met a full channel:", fulls)
	}
}

// Promise 11: a word is read behind the border that it crosses, and behind no other thing.
func TestAWordIsNotReadAheadOfTheBorder(t *testing.T) {
	for _, r := range rowsOfEachDepth() {
		recv := slices.Repeat([]impl.ChanOp{{Kind: impl.ChanRecv}}, 3)
		ops := slices.Concat([]impl.ChanOp{sending(9)}, recv, []impl.ChanOp{{Kind: impl.ChanBorder}}, recv)
		said := impl.ChanPlay(r, ops)
		if len(said) != 8 {
			t.Fatal(said)
		}
		for at, code := range []int{0, 1, 1, 1, 0, 0} {
			if said[at].Code != code {
				t.Errorf("%v: op %d said %v", r, at, said[at])
			}
		}
		again := impl.ChanSaid{Code: impl.ChanEmpty}
		if r.Kind == impl.ChanSample {
			again = impl.ChanSaid{Word: 9}
		}
		if said[5].Word != 9 || said[6] != again || said[7] != again {
			t.Errorf("%v: behind the border %v", r, said[5:])
		}
	}
}

// The functions one by one are what a play is made of, and leave right ends right.
func TestAPlayIsItsParts(t *testing.T) {
	chance := rand.New(rand.NewSource(13))
	for _, r := range rowsOfEachDepth() {
		ops := drawnOps(chance, 600)
		o, i, said := impl.OutEnd{}, impl.InEnd{}, []impl.ChanSaid{}
		for _, op := range ops {
			next, room := impl.ChanSaid{}, impl.Room(r, o)
			switch op.Kind {
			case impl.ChanSend:
				o, next.Code = impl.SendOn(r, o, op.Word)
				if (next.Code == impl.ChanFull) != (room == 0) {
					t.Fatalf("%v: room %d, code %d", r, room, next.Code)
				}
			case impl.ChanRecv:
				i, next.Word, next.Code = impl.RecvOn(r, i)
			case impl.ChanBorder:
				o, i, _ = impl.Border(r, o, i)
			case impl.ChanDiscard:
				o = impl.Discard(r, o)
			}
			if !impl.OutOk(r, o) || !impl.InOk(r, i) || r.Kind == impl.ChanQueue && len(i.Ready) > o.Held {
				t.Fatalf("%v: behind %v the ends are %v and %v", r, op, o, i)
			}
			said = append(said, next)
		}
		wantPlay(t, r, ops, said)
	}
}

// withRoom lays a list at the front of a greater one, whose rest is the spare room.
func withRoom(list []uint32) ([]uint32, []uint32) {
	whole := append(slices.Clone(list), numbered(7000, 20)...)
	return whole[:len(list)], whole
}

// Promise 26: neither the words of an end nor the room behind them are written into.
func TestEndsStayAsTheyWere(t *testing.T) {
	for _, r := range append(rowsOfEachDepth(), wrongChanRows()...) {
		for _, held := range []int{math.MinInt, -1, 0, 1, 2, 8, math.MaxInt} {
			for words := range 11 {
				sent, wholeSent := withRoom(numbered(100, words))
				ready, wholeReady := withRoom(numbered(200, words))
				o, i := impl.OutEnd{Held: held, Sent: sent}, impl.InEnd{Ready: ready}
				impl.OutOk(r, o)
				impl.InOk(r, i)
				impl.Room(r, o)
				impl.SendOn(r, o, 7)
				impl.RecvOn(r, i)
				impl.Border(r, o, i)
				impl.Border(r, impl.OutEnd{Held: held}, i)
				impl.Border(r, o, impl.InEnd{})
				impl.Discard(r, o)
				if !slices.Equal(wholeSent, slices.Concat(numbered(100, words), numbered(7000, 20))) {
					t.Fatalf("%v, Held %d: Sent was written into: %v", r, held, wholeSent)
				}
				if !slices.Equal(wholeReady, slices.Concat(numbered(200, words), numbered(7000, 20))) {
					t.Fatalf("%v: Ready was written into: %v", r, wholeReady)
				}
			}
		}
	}
}

// wantAlone changes one list after the other, up to its capacity, and asks that the others stay.
func wantAlone(t *testing.T, what string, lists ...[]uint32) {
	t.Helper()
	for at := range lists {
		others := append(slices.Clone(lists[:at]), lists[at+1:]...)
		before := [][]uint32{}
		for _, other := range others {
			before = append(before, slices.Clone(other))
		}
		for place := range lists[at][:cap(lists[at])] {
			lists[at][:cap(lists[at])][place] += 4444
		}
		for k, other := range others {
			if !slices.Equal(other, before[k]) {
				t.Errorf("%s: list %d shares memory with another", what, at)
			}
		}
	}
}

// Promise 26: an answer shares nothing with what was given, with another answer, or within itself.
func TestEndsAreNewMemory(t *testing.T) {
	for _, r := range rowsOfEachDepth() {
		for held := 0; held <= r.Depth; held++ {
			for words := 0; words+held <= max(r.Depth, 1); words++ {
				sent, wholeSent := withRoom(numbered(100, words))
				o := impl.OutEnd{Held: held, Sent: sent}
				first, _ := impl.SendOn(r, o, 7)
				second, _ := impl.SendOn(r, o, 7)
				third, _ := impl.SendOn(r, first, 8)
				empty := impl.Discard(r, o)
				wantAlone(t, "sending", wholeSent, first.Sent, second.Sent, third.Sent, empty.Sent)
			}
		}
		for words := range max(r.Depth, 1) + 1 {
			ready, wholeReady := withRoom(numbered(200, words))
			first, _, _ := impl.RecvOn(r, impl.InEnd{Ready: ready})
			second, _, _ := impl.RecvOn(r, impl.InEnd{Ready: ready})
			third, _, _ := impl.RecvOn(r, first)
			wantAlone(t, "receiving", wholeReady, first.Ready, second.Ready, third.Ready)
		}
	}
}

func TestBordersAreNewMemory(t *testing.T) {
	for _, r := range rowsOfEachDepth() {
		for held := 0; held <= r.Depth; held++ {
			for words := 0; words+held <= max(r.Depth, 1); words++ {
				unread := held
				if r.Kind == impl.ChanSample {
					unread = 1
				}
				sent, wholeSent := withRoom(numbered(100, words))
				ready, wholeReady := withRoom(numbered(200, unread))
				o, i := impl.OutEnd{Held: held, Sent: sent}, impl.InEnd{Ready: ready}
				firstOut, firstIn, first := impl.Border(r, o, i)
				secondOut, secondIn, second := impl.Border(r, o, i)
				thirdOut, thirdIn, third := impl.Border(r, firstOut, firstIn)
				wantAlone(t, "a border", wholeSent, wholeReady, firstOut.Sent, firstIn.Ready, first, secondOut.Sent, secondIn.Ready, second, thirdOut.Sent, thirdIn.Ready, third)
			}
		}
	}
}

func TestPlayedOpsStayAsTheyWere(t *testing.T) {
	chance := rand.New(rand.NewSource(14))
	for _, r := range append(rowsOfEachDepth(), wrongChanRows()...) {
		whole := drawnOps(chance, 60)
		before := slices.Clone(whole)
		first, second := impl.ChanPlay(r, whole[:40]), impl.ChanPlay(r, whole[:40])
		kept := slices.Clone(second)
		first = first[:cap(first)]
		for at := range first {
			first[at] = impl.ChanSaid{Code: 99, Word: 99}
		}
		if !slices.Equal(whole, before) || !slices.Equal(second, kept) {
			t.Errorf("%v: the ops were written into, or two answers share memory", r)
		}
	}
}
