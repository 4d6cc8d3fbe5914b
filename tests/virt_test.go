package tests

import (
	"math"
	"math/rand"
	"slices"
	"testing"

	"loop.example/g00076/impl"
)

// fullVirt has no two words alike and no word that a flag could be taken for.
func fullVirt() impl.Virt {
	return impl.Virt{On: true, Vector: 0x11121314, Saved: 0x21222324, Cause: 0x31323334, Compare: 0x41424344, Timer: true, Inside: true, Pend: 0x51525354}
}

// flagMixes is v with every mix of its three flags.
func flagMixes(v impl.Virt) []impl.Virt {
	list := []impl.Virt{}
	for mix := range 8 {
		v.On, v.Timer, v.Inside = mix%2 == 1, mix/2%2 == 1, mix/4 == 1
		list = append(list, v)
	}
	return list
}

func drawnVirt(chance *rand.Rand) impl.Virt {
	v := flagMixes(impl.Virt{})[chance.Intn(8)]
	v.Vector, v.Saved, v.Cause, v.Compare, v.Pend = chance.Uint32(), chance.Uint32(), chance.Uint32(), chance.Uint32(), chance.Uint32()
	if chance.Intn(2) == 0 {
		// Few bits, so that the lowest one is seldom one of the first.
		v.Pend = 1<<chance.Intn(32) | 1<<chance.Intn(32)
	}
	if chance.Intn(3) == 0 {
		v.Compare = uint32(chance.Intn(100))
	}
	return v
}

// someVirts has every mix of flags over the least, the greatest and middling words, and drawn ones.
func someVirts() []impl.Virt {
	most := uint32(math.MaxUint32)
	list := flagMixes(impl.Virt{})
	list = append(list, flagMixes(fullVirt())...)
	list = append(list, flagMixes(impl.Virt{Vector: most, Saved: most, Cause: most, Compare: most, Pend: most})...)
	list = append(list, flagMixes(impl.Virt{Compare: 1 << 31, Pend: 1 << 31})...)
	list = append(list, flagMixes(impl.Virt{Compare: 10, Pend: 1})...)
	chance := rand.New(rand.NewSource(91))
	for range 60 {
		list = append(list, drawnVirt(chance))
	}
	return list
}

// someCycles are the edges of words and of ints, and what stands beside them.
func someCycles() []int {
	list := []int{0, math.MaxInt, math.MinInt, math.MaxInt - 1, math.MinInt + 1, 7 << 40, -7 << 40, 99, 100}
	for _, edge := range []int{0, 10, 1 << 31, 1 << 32, 3 << 32, -1 << 31, -1 << 32, 1 << 62} {
		list = append(list, edge-1, edge, edge+1)
	}
	return list
}

// noCsrs are the numbers beside the registers, and those that a narrowing or a mask would make one.
func noCsrs() []int {
	list := []int{-1, -2, -7, -8, 8, 9, 15, 16, 256, 257, 1<<16 + 5, 1<<32 - 1, -1 << 31, math.MaxInt, math.MinInt, math.MinInt + 1}
	for n := range 8 {
		list = append(list, 1<<8+n, 1<<16+n, 1<<32+n, -1<<32+n, 8+n, -8-n, 1<<62+n)
	}
	return list
}

// noDevices are the numbers beside 0 .. 31, and those that a narrowing or a remainder would bring there.
func noDevices() []int {
	return []int{-1, -2, -31, -32, -33, 32, 33, 63, 64, 256, 256 + 3, 1<<16 + 3, 1 << 32, 1<<32 + 3, -1 << 32, math.MaxInt, math.MinInt, math.MinInt + 1, math.MaxInt - 31}
}

// noCauses are the numbers beside 1 .. 33, and those that a narrowing would bring there.
func noCauses() []int {
	return []int{0, -1, -2, -30, -31, -32, 34, 35, 64, 65, 66, 256 + 1, 256 + 2, 1<<16 + 33, 1<<32 + 1, 1<<32 + 2, -1<<32 + 1, math.MaxInt, math.MaxInt - 1, math.MinInt, math.MinInt + 1, math.MinInt + 2}
}

func csrReadByHand(v impl.Virt, n int, cycle int) (uint32, bool) {
	if n < 0 || n >= 8 {
		return 0, false
	}
	return []uint32{oneByHand(v.On), v.Vector, v.Saved, v.Cause, v.Compare, oneByHand(v.Timer), v.Pend, mod32(cycle)}[n], true
}

func csrWriteByHand(v impl.Virt, n int, x uint32) (impl.Virt, bool) {
	after, odd := v, x%2 == 1
	switch n {
	case 0:
		after.On = odd
	case 1:
		after.Vector = x
	case 2:
		after.Saved = x
	case 4:
		after.Compare = x
	case 5:
		after.Timer = odd
	default:
		return v, false
	}
	return after, true
}

// bitsOf are the numbers of the bits of x that are set, ascending, by halving.
func bitsOf(x uint32) []int {
	list := []int{}
	for d := 0; x > 0; d++ {
		if x%2 == 1 {
			list = append(list, d)
		}
		x /= 2
	}
	return list
}

// ofBits is the word in which just these bits are set, by summing.
func ofBits(list []int) uint32 {
	sum := 0.0
	for _, d := range list {
		sum += math.Pow(2, float64(d))
	}
	return uint32(sum)
}

func dueByHand(v impl.Virt, cycle int) int {
	if !v.On || v.Inside {
		return 0
	}
	if v.Timer && int(mod32(cycle)) >= int(v.Compare) {
		return 1
	}
	if waiting := bitsOf(v.Pend); len(waiting) > 0 {
		return 2 + waiting[0]
	}
	return 0
}

func enterByHand(v impl.Virt, cause int, pc uint32) (impl.Virt, uint32) {
	if cause < 1 || cause > 33 {
		return v, pc
	}
	after := v
	after.Saved, after.Cause, after.Inside = pc, mod32(cause), true
	if cause == 1 {
		after.Timer = false
		return after, v.Vector
	}
	left := slices.DeleteFunc(bitsOf(v.Pend), func(d int) bool { return d+2 == cause })
	after.Pend = ofBits(left)
	return after, v.Vector
}

func holdByHand(v impl.Virt, d int) impl.Virt {
	waiting := bitsOf(v.Pend)
	if d >= 0 && d <= 31 && !slices.Contains(waiting, d) {
		v.Pend = ofBits(append(waiting, d))
	}
	return v
}

func wantCsrRead(t *testing.T, v impl.Virt, n int, cycle int, want uint32, is bool) {
	t.Helper()
	if x, ok := impl.CsrRead(v, n, cycle); x != want || ok != is {
		t.Errorf("CsrRead(%+v, %d, %d) = %d, %v, not %d, %v", v, n, cycle, x, ok, want, is)
	}
}

func wantCsrWrite(t *testing.T, v impl.Virt, n int, x uint32, want impl.Virt, is bool) {
	t.Helper()
	if after, ok := impl.CsrWrite(v, n, x); after != want || ok != is {
		t.Errorf("CsrWrite(%+v, %d, %d) = %+v, %v, not %+v, %v", v, n, x, after, ok, want, is)
	}
}

func wantDue(t *testing.T, v impl.Virt, cycle int, want int) {
	t.Helper()
	if cause := impl.Due(v, cycle); cause != want {
		t.Errorf("Due(%+v, %d) = %d, not %d", v, cycle, cause, want)
	}
}

func wantEnter(t *testing.T, v impl.Virt, cause int, pc uint32, want impl.Virt, to uint32) {
	t.Helper()
	if after, goes := impl.Enter(v, cause, pc); after != want || goes != to {
		t.Errorf("Enter(%+v, %d, %d) = %+v, %d, not %+v, %d", v, cause, pc, after, goes, want, to)
	}
}

func wantLeave(t *testing.T, v impl.Virt, want impl.Virt, to uint32, is bool) {
	t.Helper()
	if after, goes, ok := impl.Leave(v); after != want || goes != to || ok != is {
		t.Errorf("Leave(%+v) = %+v, %d, %v, not %+v, %d, %v", v, after, goes, ok, want, to, is)
	}
}

func wantHold(t *testing.T, v impl.Virt, d int, want impl.Virt) {
	t.Helper()
	if after := impl.Hold(v, d); after != want {
		t.Errorf("Hold(%+v, %d) = %+v, not %+v", v, d, after, want)
	}
}

func TestRegistersByNumbers(t *testing.T) {
	v := fullVirt()
	for n, x := range []uint32{1, 0x11121314, 0x21222324, 0x31323334, 0x41424344, 1, 0x51525354, 77} {
		wantCsrRead(t, v, n, 77, x, true)
	}
	off := v
	off.On, off.Timer = false, false
	wantCsrRead(t, off, 0, 77, 0, true)
	wantCsrRead(t, off, 5, 77, 0, true)
	wantCsrRead(t, impl.Virt{Inside: true, Timer: true}, 0, 77, 0, true)
	wantCsrRead(t, impl.Virt{Inside: true, On: true}, 5, 77, 0, true)
}

func TestRegisterSevenIsTheCycle(t *testing.T) {
	cycles := map[int]uint32{
		0: 0, 1: 1, -1: math.MaxUint32, -2: math.MaxUint32 - 1, 1 << 31: 1 << 31,
		1<<32 - 1: math.MaxUint32, 1 << 32: 0, 1<<32 + 1: 1, 5<<32 + 9: 9,
		-1 << 31: 1 << 31, -1 << 32: 0, -1<<32 - 1: math.MaxUint32, -1<<32 + 5: 5,
		math.MaxInt: math.MaxUint32, math.MinInt: 0, math.MinInt + 3: 3,
	}
	for cycle, x := range cycles {
		wantCsrRead(t, impl.Virt{}, 7, cycle, x, true)
		wantCsrRead(t, fullVirt(), 7, cycle, x, true)
	}
}

// The cycle is told by register 7 alone.
func TestOtherRegistersDoNotHangOnTheCycle(t *testing.T) {
	for _, v := range someVirts() {
		for n := range 7 {
			first, _ := impl.CsrRead(v, n, 0)
			for _, cycle := range someCycles() {
				wantCsrRead(t, v, n, cycle, first, true)
			}
		}
	}
}

func TestCsrReadAsByHand(t *testing.T) {
	for _, v := range someVirts() {
		for n := -10; n <= 20; n++ {
			for _, cycle := range someCycles() {
				x, is := csrReadByHand(v, n, cycle)
				wantCsrRead(t, v, n, cycle, x, is)
			}
		}
	}
}

func TestRegistersThatAreNoneAreNotRead(t *testing.T) {
	for _, v := range someVirts() {
		for _, n := range noCsrs() {
			wantCsrRead(t, v, n, 5, 0, false)
		}
	}
}

func TestWritesByNumbers(t *testing.T) {
	for _, x := range []uint32{0, 1, 2, 3, 1 << 31, 1<<31 + 1, math.MaxUint32 - 1, math.MaxUint32} {
		odd := slices.Contains([]uint32{1, 3, 1<<31 + 1, math.MaxUint32}, x)
		for _, v := range flagMixes(fullVirt()) {
			want := v
			want.On = odd
			wantCsrWrite(t, v, 0, x, want, true)
			want = v
			want.Vector = x
			wantCsrWrite(t, v, 1, x, want, true)
			want = v
			want.Saved = x
			wantCsrWrite(t, v, 2, x, want, true)
			wantCsrWrite(t, v, 3, x, v, false)
			want = v
			want.Compare = x
			wantCsrWrite(t, v, 4, x, want, true)
			want = v
			want.Timer = odd
			wantCsrWrite(t, v, 5, x, want, true)
			wantCsrWrite(t, v, 6, x, v, false)
			wantCsrWrite(t, v, 7, x, v, false)
		}
	}
}

func TestCsrWriteAsByHand(t *testing.T) {
	words := someWords()[:116]
	for _, v := range someVirts() {
		for n := -10; n <= 20; n++ {
			for _, x := range words {
				want, is := csrWriteByHand(v, n, x)
				wantCsrWrite(t, v, n, x, want, is)
			}
		}
	}
}

func TestRegistersThatAreNoneAreNotWritten(t *testing.T) {
	for _, v := range someVirts() {
		for _, n := range noCsrs() {
			wantCsrWrite(t, v, n, 0, v, false)
			wantCsrWrite(t, v, n, math.MaxUint32, v, false)
		}
	}
}

// What is written is read, and no other register reads as another for it; 3, 6 and 7 are read alone.
func TestRegistersReadAsWritten(t *testing.T) {
	for _, v := range someVirts() {
		for n := range 8 {
			for _, x := range []uint32{0, 1, 6, 7, 1 << 31, math.MaxUint32} {
				after, ok := impl.CsrWrite(v, n, x)
				if ok == slices.Contains([]int{3, 6, 7}, n) {
					t.Fatalf("CsrWrite of register %d tells %v", n, ok)
				}
				for other := range 8 {
					want, _ := impl.CsrRead(v, other, 12)
					if other == n && ok {
						want = x
					}
					if other == n && (n == 0 || n == 5) {
						want = x % 2
					}
					wantCsrRead(t, after, other, 12, want, true)
				}
			}
		}
	}
}

func TestDueByNumbers(t *testing.T) {
	v := impl.Virt{On: true, Timer: true, Compare: 10, Pend: 1<<31 | 1<<5}
	wantDue(t, v, 9, 7)
	wantDue(t, v, 10, impl.CauseTimer)
	wantDue(t, v, 11, impl.CauseTimer)
	wantDue(t, v, -1, impl.CauseTimer)
	wantDue(t, v, 1<<32, 7)
	wantDue(t, v, 1<<32+9, 7)
	wantDue(t, v, 1<<32+10, impl.CauseTimer)
	wantDue(t, v, math.MaxInt, impl.CauseTimer)
	wantDue(t, v, math.MinInt, 7)
	v.Timer = false
	wantDue(t, v, 10, 7)
	v.Pend = 1 << 31
	wantDue(t, v, 10, 33)
	v.Pend = 1
	wantDue(t, v, 10, 2)
	v.Pend = math.MaxUint32
	wantDue(t, v, 10, 2)
	v.Pend = 0
	wantDue(t, v, 10, 0)
	wantDue(t, impl.Virt{}, 0, 0)
	if impl.CauseTimer != 1 {
		t.Error("the cause of the timer is another")
	}
}

// Cycles just ahead of, at and behind Compare, in several rounds of the word, over every mix of flags and several Pends.
func TestDueAroundCompare(t *testing.T) {
	pends := map[uint32]int{0: 0, 1: 2, 1 << 31: 33, 1<<31 | 1: 2, 0x51525354: 4, 1<<31 | 1<<30: 32, math.MaxUint32: 2}
	for _, compare := range []uint32{0, 1, 10, 1<<31 - 1, 1 << 31, 1<<31 + 1, math.MaxUint32 - 1, math.MaxUint32} {
		for pend, device := range pends {
			for _, v := range flagMixes(impl.Virt{Compare: compare, Pend: pend}) {
				for _, beside := range []int{-1, 0, 1} {
					for _, round := range []int{0, 1 << 32, -1 << 32, 1 << 62, math.MinInt + 1<<33} {
						word := (int(compare) + beside + 1<<32) % (1 << 32)
						want := device
						if v.Timer && word >= int(compare) {
							want = 1
						}
						if !v.On || v.Inside {
							want = 0
						}
						wantDue(t, v, round+word, want)
					}
				}
			}
		}
	}
}

func TestDueAsByHand(t *testing.T) {
	for _, v := range someVirts() {
		for _, cycle := range someCycles() {
			wantDue(t, v, cycle, dueByHand(v, cycle))
		}
		for d := range 32 {
			v.Pend = 1 << d
			wantDue(t, v, 3, dueByHand(v, 3))
			v.Pend = math.MaxUint32 << d
			wantDue(t, v, 3, dueByHand(v, 3))
		}
	}
}

// Neither where an interrupt goes, nor where the guest was, nor the last cause says what is due.
func TestDueHangsOnNothingElse(t *testing.T) {
	for _, v := range someVirts() {
		for _, x := range []uint32{0, 1, 33, math.MaxUint32} {
			other := v
			other.Vector, other.Saved, other.Cause = x, x, x
			for _, cycle := range someCycles() {
				wantDue(t, other, cycle, impl.Due(v, cycle))
			}
		}
	}
}

func TestEnterByNumbers(t *testing.T) {
	v := impl.Virt{On: true, Vector: 8, Saved: 3, Cause: 4, Compare: 10, Timer: true, Pend: 1<<31 | 1<<2 | 1}
	want := impl.Virt{On: true, Vector: 8, Saved: 100, Cause: 1, Compare: 10, Inside: true, Pend: 1<<31 | 1<<2 | 1}
	wantEnter(t, v, impl.CauseTimer, 100, want, 8)
	want.Timer = true
	want.Cause, want.Pend = 2, 1<<31|1<<2
	wantEnter(t, v, 2, 100, want, 8)
	want.Cause, want.Pend = 3, 1<<31|1<<2|1
	wantEnter(t, v, 3, 100, want, 8)
	want.Cause, want.Pend = 4, 1<<31|1
	wantEnter(t, v, 4, 100, want, 8)
	want.Cause, want.Pend = 33, 1<<2|1
	wantEnter(t, v, 33, 100, want, 8)
	for _, cause := range []int{math.MinInt, -1, 0, 34, math.MaxInt} {
		wantEnter(t, v, cause, 100, v, 100)
	}
}

// Every bit is entered set and unset, alone, among all others and among some; no other bit becomes another.
func TestEnterKeepsOtherBits(t *testing.T) {
	for cause := 2; cause <= 33; cause++ {
		own := uint32(1) << (cause - 2)
		for _, others := range []uint32{0, math.MaxUint32, 0x55555555, 0xaaaaaaaa, 1, 1 << 31, 0x51525354} {
			for _, pend := range []uint32{others | own, (others | own) - own} {
				for _, v := range flagMixes(fullVirt()) {
					v.Pend = pend
					want := v
					want.Saved, want.Cause, want.Inside, want.Pend = 9, uint32(cause), true, (others|own)-own
					wantEnter(t, v, cause, 9, want, v.Vector)
				}
			}
		}
	}
}

// For the timer every bit stays, and for a device the timer does.
func TestEnterKeepsWhatItIsNotFor(t *testing.T) {
	for _, v := range someVirts() {
		in, _ := impl.Enter(v, impl.CauseTimer, 4)
		if in.Pend != v.Pend || in.Timer {
			t.Errorf("the timer of %+v entered: %+v", v, in)
		}
		for d := range 32 {
			in, _ := impl.Enter(v, 2+d, 4)
			if in.Timer != v.Timer || in.Pend&(1<<d) != 0 {
				t.Errorf("device %d of %+v entered: %+v", d, v, in)
			}
		}
	}
}

func TestEnterAsByHand(t *testing.T) {
	for _, v := range someVirts() {
		for cause := -40; cause <= 70; cause++ {
			for _, pc := range []uint32{0, 1, 4, 1 << 31, math.MaxUint32, v.Vector, v.Saved} {
				want, to := enterByHand(v, cause, pc)
				wantEnter(t, v, cause, pc, want, to)
			}
		}
		for _, cause := range noCauses() {
			wantEnter(t, v, cause, 12, v, 12)
		}
	}
}

func TestLeaveAsByHand(t *testing.T) {
	for _, v := range someVirts() {
		want := v
		want.Inside = false
		if v.Inside {
			wantLeave(t, v, want, v.Saved, true)
		} else {
			wantLeave(t, v, v, 0, false)
		}
		wantLeave(t, want, want, 0, false)
	}
}

func TestHoldAsByHand(t *testing.T) {
	for _, v := range someVirts() {
		for d := -40; d <= 70; d++ {
			wantHold(t, v, d, holdByHand(v, d))
		}
		for _, d := range noDevices() {
			wantHold(t, v, d, v)
		}
	}
	wantHold(t, impl.Virt{}, 0, impl.Virt{Pend: 1})
	wantHold(t, impl.Virt{}, 31, impl.Virt{Pend: 1 << 31})
	wantHold(t, impl.Virt{Pend: 6}, 1, impl.Virt{Pend: 6})
	wantHold(t, impl.Virt{Pend: 6}, 3, impl.Virt{Pend: 14})
	wantHold(t, impl.Virt{Pend: 6}, 32, impl.Virt{Pend: 6})
	wantHold(t, impl.Virt{Pend: 6}, -1, impl.Virt{Pend: 6})
}

// A bit is set and unset with the others as they were.
func TestHoldSetsOneBit(t *testing.T) {
	for d := range 32 {
		own := uint32(1) << d
		for _, others := range []uint32{0, math.MaxUint32, 0x55555555, 0xaaaaaaaa, 1, 1 << 31} {
			v := fullVirt()
			v.Pend = others | own
			wantHold(t, v, d, v)
			without := v
			without.Pend -= own
			wantHold(t, without, d, v)
		}
	}
}

// Promise 9: a device that waits is due once interrupts are on and nothing is being handled.
func TestADeviceThatWaitsIsDue(t *testing.T) {
	for _, v := range someVirts() {
		v.Timer, v.Pend = false, 0
		for d := range 32 {
			held := impl.Hold(v, d)
			if !v.On || v.Inside {
				wantDue(t, held, 50, 0)
			}
			on, _ := impl.CsrWrite(held, 0, 1)
			free, _, _ := impl.Leave(on)
			wantDue(t, free, 50, 2+d)
			off, _ := impl.CsrWrite(free, 0, 0)
			wantDue(t, off, 50, 0)
			in, _ := impl.Enter(free, 2+d, 16)
			wantDue(t, in, 50, 0)
			again := impl.Hold(in, d)
			wantDue(t, again, 50, 0)
			out, _, _ := impl.Leave(again)
			wantDue(t, out, 50, 2+d)
			done, _, _ := impl.Leave(in)
			wantDue(t, done, 50, 0)
		}
	}
}

// handled enters and leaves what is due until nothing is, and tells the causes.
func handled(t *testing.T, v impl.Virt, cycle int) ([]int, impl.Virt) {
	t.Helper()
	causes := []int{}
	for impl.Due(v, cycle) != 0 {
		causes = append(causes, impl.Due(v, cycle))
		if len(causes) > 40 {
			t.Fatalf("no end of causes: %v", causes)
		}
		v, _ = impl.Enter(v, causes[len(causes)-1], 20)
		wantDue(t, v, cycle, 0)
		v, _, _ = impl.Leave(v)
	}
	return causes, v
}

// Promise 9: a timer rings ahead of all devices, once; then come the devices, each once, the lowest first.
func TestATimerRingsAheadOfAllOnce(t *testing.T) {
	for _, v := range someVirts() {
		v.On, v.Timer, v.Inside = true, true, false
		waiting := []int{}
		for _, d := range bitsOf(v.Pend) {
			waiting = append(waiting, 2+d)
		}
		causes, after := handled(t, v, int(v.Compare))
		if !slices.Equal(causes, append([]int{1}, waiting...)) || after.Pend != 0 || after.Timer {
			t.Errorf("%+v handled: %v, %+v", v, causes, after)
		}
		if v.Compare > 0 {
			causes, after = handled(t, v, int(v.Compare)-1)
			if !slices.Equal(causes, waiting) || after.Pend != 0 || !after.Timer {
				t.Errorf("%+v handled ahead of its timer: %v, %+v", v, causes, after)
			}
		}
	}
}

func TestATimerThatRangStaysSilent(t *testing.T) {
	for _, compare := range []uint32{0, 10, 1 << 31, math.MaxUint32} {
		v := impl.Virt{On: true, Timer: true, Compare: compare, Vector: 64}
		wantDue(t, v, int(compare), impl.CauseTimer)
		in, _ := impl.Enter(v, impl.CauseTimer, 8)
		out, _, _ := impl.Leave(in)
		for _, cycle := range append(someCycles(), int(compare), int(compare)+1) {
			wantDue(t, in, cycle, 0)
			wantDue(t, out, cycle, 0)
			wantDue(t, impl.Hold(out, 7), cycle, 9)
		}
		set, _ := impl.CsrWrite(out, 5, 1)
		wantDue(t, set, int(compare), impl.CauseTimer)
	}
}

// A timer that is not entered, for a device was, rings after that device.
func TestATimerIsNotLostBehindADevice(t *testing.T) {
	v := impl.Virt{On: true, Timer: true, Compare: 10, Pend: 1 << 4}
	wantDue(t, v, 9, 6)
	in, _ := impl.Enter(v, 6, 8)
	wantDue(t, in, 12, 0)
	out, _, _ := impl.Leave(in)
	wantDue(t, out, 12, impl.CauseTimer)
}

// Promise 9: leaving leads back; all that stays of the interrupt is Saved, Cause and what it was for.
func TestLeavingLeadsBack(t *testing.T) {
	for _, v := range someVirts() {
		v.Inside = false
		for cause := 1; cause <= 33; cause++ {
			for _, pc := range []uint32{0, 4, 1 << 31, math.MaxUint32} {
				in, _ := impl.Enter(v, cause, pc)
				want := v
				want.Saved, want.Cause = pc, uint32(cause)
				if cause == 1 {
					want.Timer = false
				} else if slices.Contains(bitsOf(v.Pend), cause-2) {
					want.Pend -= 1 << (cause - 2)
				}
				wantLeave(t, in, want, pc, true)
				wantLeave(t, want, want, 0, false)
			}
		}
		for _, cause := range noCauses() {
			in, pc := impl.Enter(v, cause, 40)
			if pc != 40 {
				t.Errorf("Enter of cause %d leads to %d", cause, pc)
			}
			wantLeave(t, in, v, 0, false)
		}
	}
}

// A guest may say itself where leaving leads.
func TestLeavingLeadsWhereSavedSays(t *testing.T) {
	in, _ := impl.Enter(impl.Virt{On: true, Vector: 8}, 2, 100)
	moved, _ := impl.CsrWrite(in, 2, 104)
	out := moved
	out.Inside = false
	wantLeave(t, moved, out, 104, true)
}

// What is done drawn, many times over, goes as by hand; no call hangs on those ahead of it.
func TestDrawnDoingsAsByHand(t *testing.T) {
	chance := rand.New(rand.NewSource(92))
	for range 300 {
		v := drawnVirt(chance)
		for cycle := range 100 {
			wantDue(t, v, cycle, dueByHand(v, cycle))
			n, x, pc := chance.Intn(10)-1, chance.Uint32(), chance.Uint32()
			switch chance.Intn(5) {
			case 0:
				want, is := csrWriteByHand(v, n, x%110)
				wantCsrWrite(t, v, n, x%110, want, is)
				v = want
			case 1:
				d := chance.Intn(34) - 1
				wantHold(t, v, d, holdByHand(v, d))
				v = holdByHand(v, d)
			case 2, 3:
				cause := dueByHand(v, cycle)
				want, to := enterByHand(v, cause, pc)
				wantEnter(t, v, cause, pc, want, to)
				v = want
			case 4:
				want := v
				want.Inside = false
				wantLeave(t, v, want, v.Saved*oneByHand(v.Inside), v.Inside)
				v = want
			}
			for n := range 9 {
				x, is := csrReadByHand(v, n, cycle)
				wantCsrRead(t, v, n, cycle, x, is)
			}
		}
	}
}

// Promise 26: every function answers at the ends of every argument, all of them at once.
func TestVirtAnswersAtEveryEnd(t *testing.T) {
	numbers := slices.Concat(oddInts(), noCsrs(), noDevices(), noCauses())
	for _, v := range someVirts() {
		for _, n := range numbers {
			x, is := csrReadByHand(v, n, n)
			wantCsrRead(t, v, n, n, x, is)
			after, is := csrWriteByHand(v, n, mod32(n))
			wantCsrWrite(t, v, n, mod32(n), after, is)
			wantDue(t, v, n, dueByHand(v, n))
			after, to := enterByHand(v, n, mod32(n))
			wantEnter(t, v, n, mod32(n), after, to)
			wantHold(t, v, n, holdByHand(v, n))
		}
	}
}
