package tests

import (
	"bytes"
	"fmt"
	"math"
	"math/rand"
	"slices"
	"testing"

	"loop.example/g00076/impl"
)

// partTables have channels of both kinds in both directions, some of which partition 0 has no end of, and devices of all three; no two sums of their costs are alike by chance.
func partTables() impl.Tables {
	return impl.Tables{
		Mem: 1024, Shape: impl.Shape{Sets: 2, Ways: 1, Line: 8}, Tlb: 2,
		Costs: impl.Costs{Base: 1, Mul: 2, Mem: 3, Miss: 10, Walk: 20, Trap: 5, Line: 40},
		Pad:   130, Guard: 160, Major: 2000,
		Parts: []impl.PartRow{
			{Name: "a", Entry: 8, Windows: []impl.Window{win(0, 64, 5), win(128, 32, 3), win(192, 16, 1), win(320, 8, 4)}},
			{Name: "b", Entry: 512, Policy: impl.Policy{Kind: impl.PolicyRestart, Most: 2}, Windows: []impl.Window{win(512, 64, 7)}},
			{Name: "c", Entry: 772, Policy: impl.Policy{Kind: impl.PolicySkip}, Windows: []impl.Window{win(640, 16, 2), win(768, 64, 4)}},
		},
		Devs: []int{0, 1, 0, 2, 0},
		Chans: []impl.ChanRow{
			{Kind: impl.ChanQueue, From: 0, To: 1, Depth: 2}, {Kind: impl.ChanSample, From: 0, To: 1},
			{Kind: impl.ChanQueue, From: 1, To: 0, Depth: 3}, {Kind: impl.ChanSample, From: 2, To: 0},
			{Kind: impl.ChanQueue, From: 1, To: 2, Depth: 1}, {Kind: impl.ChanSample, From: 2, To: 1},
			{Kind: impl.ChanQueue, From: 0, To: 2, Depth: 8},
		},
		Slots: []impl.Slot{{Part: 0, Start: 0, Len: 500}, {Part: 1, Start: 500, Len: 400}, {Part: 2, Start: 900, Len: 400}, {Part: 0, Start: 1400, Len: 300}},
	}
}

func withPolicy(x impl.Tables, p int, policy impl.Policy) impl.Tables {
	x = copyTables(x)
	x.Parts[p].Policy = policy
	return x
}

func samePart(a impl.PartState, b impl.PartState) bool {
	runs := sameGuest(a.Guest, b.Guest) && a.Virt == b.Virt && a.Health == b.Health && a.Next == b.Next && a.Idle == b.Idle
	near := sameCache(a.Cache, b.Cache) && sameTlb(a.Tlb, b.Tlb)
	ends := slices.EqualFunc(a.Outs, b.Outs, sameOut) && slices.EqualFunc(a.Ins, b.Ins, sameIn)
	return runs && near && ends && slices.EqualFunc(a.Devs, b.Devs, sameDev) && slices.EqualFunc(a.Boot, b.Boot, bytes.Equal)
}

func copyImage(image [][]byte) [][]byte {
	return copyGuest(impl.Guest{Ram: image}).Ram
}

func copyPart(s impl.PartState) impl.PartState {
	s.Guest, s.Cache, s.Boot = copyGuest(s.Guest), copyCache(s.Cache), copyImage(s.Boot)
	s.Tlb.Pages = slices.Clone(s.Tlb.Pages)
	s.Outs, s.Ins, s.Devs = slices.Clone(s.Outs), slices.Clone(s.Ins), slices.Clone(s.Devs)
	for n := range s.Outs {
		s.Outs[n].Sent = slices.Clone(s.Outs[n].Sent)
	}
	for n := range s.Ins {
		s.Ins[n].Ready = slices.Clone(s.Ins[n].Ready)
	}
	for n, d := range s.Devs {
		s.Devs[n] = impl.DevState{Latch: slices.Clone(d.Latch), Seen: slices.Clone(d.Seen)}
	}
	return s
}

// changedPart is s with one thing changed.
func changedPart(s impl.PartState, change func(s *impl.PartState)) impl.PartState {
	s = copyPart(s)
	change(&s)
	return s
}

// imageOver has no two bytes beside each other alike, and no byte 0.
func imageOver(ws []impl.Window) [][]byte {
	image := [][]byte{}
	for at, w := range ws {
		part := make([]byte, w.Size)
		for k := range part {
			part[k] = byte(1 + (41*at+5*k)%255)
		}
		image = append(image, part)
	}
	return image
}

func bootByHand(x impl.Tables, p int, image [][]byte) impl.PartState {
	s := impl.PartState{Idle: true, Boot: copyImage(image)}
	s.Guest = impl.Guest{Regs: make([]uint32, 16), PC: uint32(x.Parts[p].Entry), Ram: copyImage(image)}
	s.Cache = impl.Cache{Shape: x.Shape, Rows: make([][]impl.Way, x.Shape.Sets)}
	s.Tlb = impl.Tlb{Size: x.Tlb}
	s.Outs, s.Ins, s.Devs = make([]impl.OutEnd, len(x.Chans)), make([]impl.InEnd, len(x.Chans)), make([]impl.DevState, len(x.Devs))
	return s
}

// afreshByHand takes what is named of a booted partition, and leaves all else.
func afreshByHand(x impl.Tables, p int, s impl.PartState) impl.PartState {
	after := copyPart(s)
	after.Guest, after.Virt = bootByHand(x, p, s.Boot).Guest, impl.Virt{}
	for n, o := range s.Outs {
		after.Outs[n] = impl.OutEnd{Held: o.Held}
	}
	return after
}

func slotByHand(x impl.Tables, p int, s impl.PartState, cycle int) impl.PartState {
	after, fresh := copyPart(s), bootByHand(x, p, s.Boot)
	after.Cache, after.Tlb, after.Idle, after.Next = fresh.Cache, fresh.Tlb, false, cycle+x.Pad
	if s.Health.Halted {
		return after
	}
	for n, owner := range x.Devs {
		if owner == p && len(s.Devs[n].Latch) > 0 && len(s.Devs[n].Seen) < 8 {
			moved := min(len(s.Devs[n].Latch), 8-len(s.Devs[n].Seen))
			after.Devs[n].Seen = append(after.Devs[n].Seen, s.Devs[n].Latch[:moved]...)
			after.Devs[n].Latch = after.Devs[n].Latch[moved:]
			after.Virt = holdByHand(after.Virt, n)
		}
	}
	return after
}

func restartByHand(x impl.Tables, p int, s impl.PartState) impl.PartState {
	after := afreshByHand(x, p, s)
	after.Health.Halted, after.Health.Last, after.Idle = false, 0, true
	return after
}

func inputByHand(s impl.PartState, dev int, w uint32) (impl.PartState, bool) {
	after := copyPart(s)
	if len(s.Devs[dev].Latch) == 8 {
		return after, false
	}
	after.Devs[dev].Latch = append(after.Devs[dev].Latch, w)
	return after, true
}

func imageOkByHand(x impl.Tables, p int, image [][]byte) bool {
	if !soundByHand(x) || p < 0 || p >= len(x.Parts) || len(image) != len(x.Parts[p].Windows) {
		return false
	}
	right := true
	for at, w := range x.Parts[p].Windows {
		right = right && len(image[at]) == w.Size
	}
	return right
}

// endsByHand is whether the ends and devices are as many as the tables want, the own ones right, and the others zero values.
func endsByHand(x impl.Tables, p int, s impl.PartState) bool {
	if len(s.Outs) != len(x.Chans) || len(s.Ins) != len(x.Chans) || len(s.Devs) != len(x.Devs) {
		return false
	}
	right := true
	for n, r := range x.Chans {
		o, i := s.Outs[n], s.Ins[n]
		if r.From == p {
			right = right && outOkByHand(r, o.Held, len(o.Sent))
		} else {
			right = right && o.Held == 0 && len(o.Sent) == 0
		}
		if r.To == p {
			right = right && inOkByHand(r, len(i.Ready))
		} else {
			right = right && len(i.Ready) == 0
		}
	}
	for n, owner := range x.Devs {
		most := map[bool]int{true: 8, false: 0}[owner == p]
		right = right && len(s.Devs[n].Latch) <= most && len(s.Devs[n].Seen) <= most
	}
	return right
}

func partOkByHand(x impl.Tables, p int, s impl.PartState) bool {
	if !imageOkByHand(x, p, s.Boot) || !imageOkByHand(x, p, s.Guest.Ram) || len(s.Guest.Regs) != 16 || s.Guest.Regs[0] != 0 {
		return false
	}
	h := s.Health
	health := isBetween(h.Faults, 0, 1000000000) && isBetween(h.Restarts, 0, 1000000000) && isBetween(h.Last, 0, 9)
	near := impl.CacheOk(s.Cache) && s.Cache.Shape == x.Shape && impl.TlbOk(s.Tlb) && s.Tlb.Size == x.Tlb
	return health && near && isBetween(s.Next, 0, 100000) && endsByHand(x, p, s)
}

// fullPart is right, not as at first in anything, has words in all that is its own, and may step.
func fullPart(x impl.Tables, p int) impl.PartState {
	s := bootByHand(x, p, imageOver(x.Parts[p].Windows))
	s.Guest.Ram = guestOver(x.Parts[p].Windows).Ram
	for n := range uint32(15) {
		s.Guest.Regs[n+1] = 0x01000000 + n
	}
	s.Virt = fullVirt()
	s.Health = impl.Health{Faults: 7, Restarts: 1, Last: 3}
	s.Cache, s.Tlb = fullCache(x.Shape, true), fullTlb(x.Tlb)
	s.Next, s.Idle = 777, false
	for n, r := range x.Chans {
		if r.From == p {
			s.Outs[n] = outOf(r.Depth/2, max(r.Depth-r.Depth/2, 1))
		}
		if r.To == p {
			s.Ins[n] = inOf(max(r.Depth, 1))
		}
	}
	for n, owner := range x.Devs {
		if owner == p {
			s.Devs[n] = impl.DevState{Latch: numbered(uint32(300+10*n), 2), Seen: numbered(uint32(400+10*n), 3)}
		}
	}
	return s
}

func drawnHealth(chance *rand.Rand) impl.Health {
	counts := []int{0, 0, 1, 2, 3, 99, 100, 101, 999999999, 1000000000}
	return impl.Health{Faults: counts[chance.Intn(len(counts))], Restarts: counts[chance.Intn(len(counts))], Last: chance.Intn(10)}
}

// drawnPart is right and may step; its PC is for the most part at an instruction that is drawn too.
func drawnPart(chance *rand.Rand, x impl.Tables, p int) impl.PartState {
	ws := x.Parts[p].Windows
	s := bootByHand(x, p, drawnGuest(chance, ws).Ram)
	s.Guest, s.Health, s.Idle, s.Next = drawnGuest(chance, ws), drawnHealth(chance), false, chance.Intn(100001)
	s.Cache, s.Tlb = drawnCache(chance, x.Shape), drawnTlb(chance, x.Tlb)
	if s.Virt = drawnVirt(chance); chance.Intn(4) > 0 {
		s.Virt.On = false
	}
	for n, r := range x.Chans {
		if r.From == p {
			s.Outs[n].Held = chance.Intn(r.Depth + 1)
			s.Outs[n].Sent = numbered(chance.Uint32(), chance.Intn(max(r.Depth, 1)-s.Outs[n].Held+1))
		}
		if r.To == p {
			s.Ins[n].Ready = numbered(chance.Uint32(), chance.Intn(max(r.Depth, 1)+1))
		}
	}
	for n, owner := range x.Devs {
		if owner == p {
			s.Devs[n] = impl.DevState{Latch: numbered(chance.Uint32(), chance.Intn(9)), Seen: numbered(chance.Uint32(), chance.Intn(9))}
		}
	}
	if chance.Intn(10) > 0 {
		layDrawn(chance, ws, s.Guest)
		s.Guest.PC = placeToRun(chance, ws)
	}
	return s
}

// placeToRun is a word in a window that may be run.
func placeToRun(chance *rand.Rand, ws []impl.Window) uint32 {
	for _, at := range chance.Perm(len(ws)) {
		if w := ws[at]; w.Perm >= 4 {
			return uint32(w.Base + 4*chance.Intn(w.Size/4))
		}
	}
	return 0
}

// drawnCall is an instruction of any op, in half of all draws one that calls, with a small Imm for the most part.
func drawnCall(chance *rand.Rand) impl.Instr {
	rows := opRows()
	if chance.Intn(2) == 0 {
		rows = rows[25:]
	}
	i := drawnInstr(chance, rows[chance.Intn(len(rows))])
	if i.Op >= 25 && i.Op <= 29 && chance.Intn(5) > 0 {
		i.Imm = chance.Intn(10) - 1
	}
	return i
}

// layDrawn lays instructions over all of the guest's memory that may be run; of twenty places about one stays as it is.
func layDrawn(chance *rand.Rand, ws []impl.Window, g impl.Guest) {
	for _, w := range ws {
		for addr := w.Base; w.Perm >= 4 && addr < w.Base+w.Size; addr += 4 {
			if chance.Intn(20) > 0 {
				layWord(ws, g, addr, wordByHand(drawnCall(chance)))
			}
		}
	}
}

func partText(s impl.PartState) string {
	return fmt.Sprintf("%+v", s)
}

func wantPart(t *testing.T, what string, got impl.PartState, is bool, want impl.PartState, wantIs bool) {
	t.Helper()
	if is != wantIs || !samePart(got, want) {
		t.Errorf("%s: %v\n%s\nnot %v\n%s", what, is, partText(got), wantIs, partText(want))
	}
}

func wantPartOk(t *testing.T, what string, x impl.Tables, p int, s impl.PartState, want bool) {
	t.Helper()
	if got := impl.PartOk(x, p, s); got != want {
		t.Errorf("%s: PartOk is %v, partition %d, %s", what, got, p, partText(s))
	}
}

func wantBoot(t *testing.T, x impl.Tables, p int, image [][]byte) {
	t.Helper()
	got, is := impl.PartBoot(x, p, image)
	wantPart(t, "boot", got, is, bootByHand(x, p, image), true)
	wantPartOk(t, "booted", x, p, got, true)
}

func wantNoImage(t *testing.T, what string, x impl.Tables, p int, image [][]byte) {
	t.Helper()
	if impl.ImageOk(x, p, image) {
		t.Errorf("%s: ImageOk of partition %d, %v", what, p, image)
	}
	got, is := impl.PartBoot(x, p, image)
	wantPart(t, what, got, is, impl.PartState{}, false)
}

func wantSlot(t *testing.T, x impl.Tables, p int, s impl.PartState, cycle int) {
	t.Helper()
	got, is := impl.PartSlot(x, p, s, cycle)
	wantPart(t, "slot", got, is, slotByHand(x, p, s, cycle), true)
	wantPartOk(t, "behind the start of a slot", x, p, got, true)
}

func wantRestart(t *testing.T, x impl.Tables, p int, s impl.PartState) {
	t.Helper()
	got, is := impl.PartRestart(x, p, s)
	wantPart(t, "restart", got, is, restartByHand(x, p, s), true)
	wantPartOk(t, "behind a restart", x, p, got, true)
}

func wantInput(t *testing.T, x impl.Tables, p int, s impl.PartState, dev int, w uint32) {
	t.Helper()
	got, is := impl.PartInput(x, p, s, dev, w)
	after, taken := inputByHand(s, dev, w)
	wantPart(t, "input", got, is, after, taken)
	wantPartOk(t, "behind an input", x, p, got, true)
}

func wantNoSlot(t *testing.T, what string, x impl.Tables, p int, s impl.PartState, cycle int) {
	t.Helper()
	got, is := impl.PartSlot(x, p, s, cycle)
	wantPart(t, what, got, is, impl.PartState{}, false)
}

func wantNoInput(t *testing.T, what string, x impl.Tables, p int, s impl.PartState, dev int) {
	t.Helper()
	got, is := impl.PartInput(x, p, s, dev, 5)
	wantPart(t, what, got, is, impl.PartState{}, false)
}

func wantNoStep(t *testing.T, what string, x impl.Tables, p int, s impl.PartState, cycle int) {
	t.Helper()
	got, e, is := impl.PartStep(x, p, s, cycle)
	wantPart(t, what, got, is, impl.PartState{}, false)
	if e != (impl.Event{}) {
		t.Errorf("%s: %+v", what, e)
	}
}

// wantNoPart asks every function what it says of a state that is not right.
func wantNoPart(t *testing.T, what string, x impl.Tables, p int, s impl.PartState) {
	t.Helper()
	wantPartOk(t, what, x, p, s, false)
	got, is := impl.PartRestart(x, p, s)
	wantPart(t, what, got, is, impl.PartState{}, false)
	wantNoSlot(t, what, x, p, s, 0)
	wantNoStep(t, what, x, p, s, 0)
	for dev := range 5 {
		wantNoInput(t, what, x, p, s, dev)
	}
}

// noParts are no partition of three.
func noParts() []int {
	return append(oddInts(), -1, -2, -3, 3, 4, 5, 6, 7)
}

func TestImageOkOfEachTable(t *testing.T) {
	for _, maker := range append(tableMakers(), partTables) {
		x := maker()
		for p, row := range x.Parts {
			image := imageOver(row.Windows)
			if !impl.ImageOk(x, p, image) {
				t.Errorf("not ImageOk: partition %d of %+v", p, x)
			}
			wantBoot(t, x, p, image)
			for other, otherRow := range x.Parts {
				if other != p && imageOkByHand(x, other, image) != impl.ImageOk(x, other, image) {
					t.Errorf("the image of %s for %s", row.Name, otherRow.Name)
				}
			}
		}
	}
}

func TestImagesThatAreWrong(t *testing.T) {
	x := partTables()
	for p, row := range x.Parts {
		right := imageOver(row.Windows)
		wantNoImage(t, "no list", x, p, nil)
		wantNoImage(t, "an empty list", x, p, [][]byte{})
		wantNoImage(t, "a list too few", x, p, right[:len(right)-1])
		wantNoImage(t, "the first list lacks", x, p, right[1:])
		wantNoImage(t, "a list too many", x, p, append(copyImage(right), []byte{}))
		wantNoImage(t, "a long list too many", x, p, append(copyImage(right), make([]byte, 16)))
		for at := range right {
			for _, size := range []int{0, 1, row.Windows[at].Size - 4, row.Windows[at].Size - 1, row.Windows[at].Size + 1, row.Windows[at].Size + 4, row.Windows[at].Size + 256} {
				image := copyImage(right)
				image[at] = make([]byte, size)
				wantNoImage(t, "a list of another length", x, p, image)
			}
		}
	}
	turned := imageOver(x.Parts[0].Windows)
	slices.Reverse(turned)
	wantNoImage(t, "lists in another order", x, 0, turned)
}

func TestImagesOfNoPartition(t *testing.T) {
	x := partTables()
	for _, p := range noParts() {
		wantNoImage(t, "no partition", x, p, nil)
		for _, row := range x.Parts {
			wantNoImage(t, "no partition", x, p, imageOver(row.Windows))
		}
	}
}

func TestPartitionsOfTablesThatAreNotSound(t *testing.T) {
	for what, x := range wrongTables() {
		for p := -1; p < 7; p++ {
			wantNoImage(t, what, x, p, nil)
			wantNoPart(t, what, x, p, impl.PartState{})
			if p >= 0 && p < len(x.Parts) {
				image := guestOver(x.Parts[p].Windows).Ram
				wantNoImage(t, what, x, p, image)
			}
			if p >= 0 && p < 3 {
				wantNoImage(t, what, x, p, imageOver(rightTables().Parts[p].Windows))
				wantNoPart(t, what, x, p, fullPart(rightTables(), p))
			}
		}
	}
}

func TestPartBootByNumbers(t *testing.T) {
	s, is := impl.PartBoot(partTables(), 1, [][]byte{bytes.Repeat([]byte{9}, 64)})
	if !is || s.Guest.PC != 512 || !s.Idle || s.Next != 0 || s.Virt != (impl.Virt{}) || s.Health != (impl.Health{}) {
		t.Error(partText(s))
	}
	if !slices.Equal(s.Guest.Regs, make([]uint32, 16)) || len(s.Guest.Ram) != 1 || !bytes.Equal(s.Guest.Ram[0], bytes.Repeat([]byte{9}, 64)) {
		t.Error(s.Guest)
	}
	if len(s.Boot) != 1 || !bytes.Equal(s.Boot[0], s.Guest.Ram[0]) || len(s.Outs) != 7 || len(s.Ins) != 7 || len(s.Devs) != 5 {
		t.Error(partText(s))
	}
	if !sameCache(s.Cache, impl.CacheEmpty(impl.Shape{Sets: 2, Ways: 1, Line: 8})) || !sameTlb(s.Tlb, impl.TlbEmpty(2)) {
		t.Error(s.Cache, s.Tlb)
	}
}

func TestPartBootOfDrawnTables(t *testing.T) {
	chance := rand.New(rand.NewSource(171))
	for range 100 {
		x := drawnTables(chance)
		for p, row := range x.Parts {
			wantBoot(t, x, p, drawnGuest(chance, row.Windows).Ram)
		}
	}
}

func TestPartOkOfRightStates(t *testing.T) {
	chance := rand.New(rand.NewSource(172))
	x := partTables()
	for p := range 3 {
		wantPartOk(t, "full", x, p, fullPart(x, p), true)
		for other := range 3 {
			wantPartOk(t, "of another", x, other, fullPart(x, p), p == other)
		}
		for _, none := range noParts() {
			wantNoPart(t, "of nobody", x, none, fullPart(x, p))
		}
		for range 50 {
			wantPartOk(t, "drawn", x, p, drawnPart(chance, x, p), true)
		}
	}
}

// A list that has no word is the zero value, whether it is nil or not.
func TestPartOkOfEmptyLists(t *testing.T) {
	x := partTables()
	s := changedPart(fullPart(x, 0), func(s *impl.PartState) {
		s.Outs[2].Sent, s.Ins[4].Ready, s.Devs[1] = []uint32{}, []uint32{}, impl.DevState{Latch: []uint32{}, Seen: []uint32{}}
	})
	wantPartOk(t, "empty lists", x, 0, s, true)
	least := leastTables()
	booted := bootByHand(least, 0, [][]byte{{1, 2, 3, 4}})
	wantPartOk(t, "no ends", least, 0, booted, true)
	booted.Outs, booted.Ins, booted.Devs = nil, nil, nil
	wantPartOk(t, "no ends, as nil", least, 0, booted, true)
}

func TestPartOkByNext(t *testing.T) {
	x := partTables()
	for p := range 3 {
		for _, next := range append(oddInts(), -2, -1, 0, 1, 49999, 50000, 50001, 99999, 100000, 100001, 100002) {
			s := changedPart(fullPart(x, p), func(s *impl.PartState) { s.Next = next })
			if isBetween(next, 0, 100000) {
				wantPartOk(t, "Next", x, p, s, true)
			} else {
				wantNoPart(t, "Next", x, p, s)
			}
		}
	}
}

func TestPartOkByBoot(t *testing.T) {
	x := partTables()
	for p, row := range x.Parts {
		right := fullPart(x, p)
		for what, g := range wrongGuests(row.Windows) {
			if imageOkByHand(x, p, g.Ram) {
				continue
			}
			wantNoPart(t, "Boot: "+what, x, p, changedPart(right, func(s *impl.PartState) { s.Boot = g.Ram }))
		}
	}
}

func TestPartOkByGuest(t *testing.T) {
	x := partTables()
	for p, row := range x.Parts {
		for what, g := range wrongGuests(row.Windows) {
			wantNoPart(t, "Guest: "+what, x, p, changedPart(fullPart(x, p), func(s *impl.PartState) { s.Guest = g }))
		}
		for _, pc := range []uint32{0, 1, 2, 3, 4, 1 << 31, math.MaxUint32} {
			wantPartOk(t, "PC may be anything", x, p, changedPart(fullPart(x, p), func(s *impl.PartState) { s.Guest.PC = pc }), true)
		}
	}
}

func TestPartOkByHealth(t *testing.T) {
	x := partTables()
	for _, h := range wrongHealths() {
		wantNoPart(t, "Health", x, 0, changedPart(fullPart(x, 0), func(s *impl.PartState) { s.Health = h }))
	}
	for _, h := range rightHealths() {
		wantPartOk(t, "Health", x, 1, changedPart(fullPart(x, 1), func(s *impl.PartState) { s.Health = h }), true)
	}
	for _, v := range someVirts() {
		wantPartOk(t, "every Virt is right", x, 2, changedPart(fullPart(x, 2), func(s *impl.PartState) { s.Virt = v }), true)
	}
}

func TestPartOkByCache(t *testing.T) {
	own := partTables().Shape
	for _, c := range someCaches() {
		s := changedPart(fullPart(partTables(), 0), func(s *impl.PartState) { s.Cache = c })
		wantPartOk(t, "a cache", partTables(), 0, s, c.Shape == own)
	}
	for what, c := range wrongCaches() {
		x := partTables()
		if slices.Contains(rightShapes(), c.Shape) {
			x.Shape, x.Costs.Line = c.Shape, 1
			wantSound(t, what, x, true)
		}
		wantNoPart(t, "Cache: "+what, x, 0, changedPart(fullPart(x, 0), func(s *impl.PartState) { s.Cache = c }))
	}
	// Each is right, and would do but for one number of its shape.
	for _, shape := range []impl.Shape{{Sets: 1, Ways: 1, Line: 8}, {Sets: 4, Ways: 1, Line: 8}, {Sets: 2, Ways: 2, Line: 8}, {Sets: 2, Ways: 1, Line: 4}, {Sets: 2, Ways: 1, Line: 16}} {
		wantNoPart(t, "another shape", partTables(), 0, changedPart(fullPart(partTables(), 0), func(s *impl.PartState) { s.Cache = impl.CacheEmpty(shape) }))
	}
}

func TestPartOkByTlb(t *testing.T) {
	for _, pages := range someTlbs() {
		s := changedPart(fullPart(partTables(), 0), func(s *impl.PartState) { s.Tlb = pages })
		wantPartOk(t, "a table of pages", partTables(), 0, s, pages.Size == 2)
	}
	for what, pages := range wrongTlbs() {
		x := partTables()
		if isBetween(pages.Size, 1, 8) {
			x.Tlb = pages.Size
		}
		wantNoPart(t, "Tlb: "+what, x, 0, changedPart(fullPart(x, 0), func(s *impl.PartState) { s.Tlb = pages }))
	}
	for _, size := range []int{1, 3, 8} {
		wantNoPart(t, "another size", partTables(), 0, changedPart(fullPart(partTables(), 0), func(s *impl.PartState) { s.Tlb = impl.TlbEmpty(size) }))
	}
}

func TestPartOkByCountOfEntries(t *testing.T) {
	for _, x := range []impl.Tables{partTables(), leastTables(), rightTables()} {
		for p := range x.Parts {
			s := fullPart(x, p)
			for what, change := range map[string]func(s *impl.PartState){
				"an Out too many": func(s *impl.PartState) { s.Outs = append(s.Outs, impl.OutEnd{}) },
				"an In too many":  func(s *impl.PartState) { s.Ins = append(s.Ins, impl.InEnd{}) },
				"a Dev too many":  func(s *impl.PartState) { s.Devs = append(s.Devs, impl.DevState{}) },
			} {
				wantNoPart(t, what, x, p, changedPart(s, change))
			}
			if len(x.Chans) > 0 {
				wantNoPart(t, "an Out too few", x, p, changedPart(s, func(s *impl.PartState) { s.Outs = s.Outs[:len(s.Outs)-1] }))
				wantNoPart(t, "an In too few", x, p, changedPart(s, func(s *impl.PartState) { s.Ins = s.Ins[:len(s.Ins)-1] }))
				wantNoPart(t, "no Out", x, p, changedPart(s, func(s *impl.PartState) { s.Outs = nil }))
				wantNoPart(t, "no In", x, p, changedPart(s, func(s *impl.PartState) { s.Ins = nil }))
				wantNoPart(t, "no Dev", x, p, changedPart(s, func(s *impl.PartState) { s.Devs = nil }))
				wantNoPart(t, "a Dev too few", x, p, changedPart(s, func(s *impl.PartState) { s.Devs = s.Devs[:len(s.Devs)-1] }))
			}
		}
	}
}

// Each entry of each list has each Held and each count of words alone: right ones, and those that are too many for it.
func TestPartOkByEachEntry(t *testing.T) {
	x := partTables()
	for p := range 3 {
		right, taken := fullPart(x, p), 0
		look := func(what string, change func(s *impl.PartState)) {
			t.Helper()
			s := changedPart(right, change)
			want := endsByHand(x, p, s)
			wantPartOk(t, what, x, p, s, want)
			if want {
				taken++
			} else {
				wantNoPart(t, what, x, p, s)
			}
		}
		for n := range x.Chans {
			for words := range 11 {
				for held := -1; held <= 9; held++ {
					look("Outs", func(s *impl.PartState) { s.Outs[n] = outOf(held, words) })
				}
				look("Ins", func(s *impl.PartState) { s.Ins[n] = inOf(words) })
			}
			for _, held := range oddInts() {
				look("a far Held", func(s *impl.PartState) { s.Outs[n].Held = held })
			}
		}
		for n := range x.Devs {
			for words := range 11 {
				look("Latch", func(s *impl.PartState) { s.Devs[n].Latch = numbered(1, words) })
				look("Seen", func(s *impl.PartState) { s.Devs[n].Seen = numbered(1, words) })
			}
		}
		if taken < 20 {
			t.Error("too few were right:", taken)
		}
	}
}

// disturbPart changes one thing of a right state; what comes may be right or not.
func disturbPart(chance *rand.Rand, s *impl.PartState) {
	steps := []int{-2, -1, 1, 2, 40, -40, 100001}
	add := steps[chance.Intn(len(steps))]
	words := numbered(7, chance.Intn(10))
	switch chance.Intn(14) {
	case 0:
		s.Next += add
	case 1:
		s.Boot = s.Boot[:chance.Intn(len(s.Boot)+1)]
	case 2:
		at := chance.Intn(len(s.Boot))
		s.Boot[at] = append(s.Boot[at], make([]byte, chance.Intn(2))...)
	case 3:
		s.Guest.Regs[chance.Intn(2)] = chance.Uint32()
	case 4:
		at := chance.Intn(len(s.Guest.Ram))
		s.Guest.Ram[at] = s.Guest.Ram[at][chance.Intn(2):]
	case 5:
		s.Health.Last += add
	case 6:
		s.Health.Faults += add
	case 7:
		s.Health.Restarts += add
	case 8:
		s.Cache.Rows[0] = append(s.Cache.Rows[0], dirty(add))
	case 9:
		s.Tlb.Pages = append(s.Tlb.Pages, add)
	case 10:
		s.Tlb.Size += chance.Intn(2)
	case 11:
		for n := range s.Outs {
			s.Outs[n].Sent = [][]uint32{s.Outs[n].Sent, words}[chance.Intn(2)]
		}
	case 12:
		for n := range s.Ins {
			s.Ins[n].Ready = [][]uint32{s.Ins[n].Ready, words}[chance.Intn(2)]
		}
	case 13:
		for n := range s.Devs {
			s.Devs[n].Latch = [][]uint32{s.Devs[n].Latch, words}[chance.Intn(2)]
		}
	}
}

func TestPartOkOfDisturbedStates(t *testing.T) {
	chance := rand.New(rand.NewSource(173))
	right, wrong := 0, 0
	for range 2000 {
		x := drawnTables(chance)
		p := chance.Intn(len(x.Parts))
		s := drawnPart(chance, x, p)
		wantPartOk(t, "drawn", x, p, s, true)
		disturbPart(chance, &s)
		want := partOkByHand(x, p, s)
		wantPartOk(t, "disturbed", x, p, s, want)
		if want {
			right++
		} else {
			wrong++
			wantNoPart(t, "disturbed", x, p, s)
		}
	}
	if right < 300 || wrong < 300 {
		t.Error("too few of one kind:", right, wrong)
	}
}

func TestPartSlotByNumbers(t *testing.T) {
	x := partTables()
	s := fullPart(x, 0)
	s.Virt.Pend, s.Idle = 0, true
	s.Devs[2].Latch = nil
	s.Devs[4] = devOf(8, 7)
	got, is := impl.PartSlot(x, 0, s, 1400)
	if !is || got.Next != 1530 || got.Idle || got.Virt.Pend != 1<<0|1<<4 || got.Health != s.Health || !sameGuest(got.Guest, s.Guest) {
		t.Error(is, partText(got))
	}
	if !sameCache(got.Cache, impl.CacheEmpty(x.Shape)) || !sameTlb(got.Tlb, impl.TlbEmpty(2)) {
		t.Error(got.Cache, got.Tlb)
	}
	if !sameDev(got.Devs[0], impl.DevState{Seen: []uint32{400, 401, 402, 300, 301}}) || !sameDev(got.Devs[2], impl.DevState{Seen: numbered(420, 3)}) {
		t.Error(got.Devs)
	}
	if !sameDev(got.Devs[4], impl.DevState{Latch: numbered(101, 7), Seen: append(numbered(200, 7), 100)}) || !sameDev(got.Devs[1], impl.DevState{}) {
		t.Error(got.Devs)
	}
}

func TestPartSlotAtEachCycle(t *testing.T) {
	x := partTables()
	for p := range 3 {
		for _, cycle := range []int{0, 1, 130, 1400, 1999, 2000, 49999, 50000} {
			wantSlot(t, x, p, fullPart(x, p), cycle)
		}
		for _, cycle := range noCycles() {
			wantNoSlot(t, "no cycle", x, p, fullPart(x, p), cycle)
		}
	}
	late := changed(frameTables, func(x *impl.Tables) { x.Pad, x.Guard = 4998, 1 })
	s, is := impl.PartSlot(late, 0, bootByHand(late, 0, [][]byte{{1, 2, 3, 4}}), 50000)
	if !is || s.Next != 54998 {
		t.Error("the greatest pad", s.Next)
	}
}

// Each count of words that came and that are seen already, with interrupts on and off, and halted.
func TestPartSlotByWordsThatWait(t *testing.T) {
	x := partTables()
	for latch := range 9 {
		for seen := range 9 {
			for _, halted := range []bool{false, true} {
				for _, pend := range []uint32{0, 1, 1 << 1, 1 << 31, math.MaxUint32} {
					s := fullPart(x, 0)
					s.Health.Halted, s.Virt.Pend = halted, pend
					s.Devs[2] = devOf(latch, seen)
					wantSlot(t, x, 0, s, 400)
				}
			}
		}
	}
}

// Who is halted has what is near emptied, and its time set, but sees nothing of what came.
func TestPartSlotOfOneThatIsHalted(t *testing.T) {
	x := partTables()
	for p := range 3 {
		s := changedPart(fullPart(x, p), func(s *impl.PartState) { s.Health.Halted, s.Idle = true, true })
		got, is := impl.PartSlot(x, p, s, 7)
		want := changedPart(s, func(s *impl.PartState) {
			s.Cache, s.Tlb, s.Idle, s.Next = impl.CacheEmpty(x.Shape), impl.TlbEmpty(2), false, 137
		})
		wantPart(t, "halted", got, is, want, true)
	}
}

func TestPartSlotOfDrawnStates(t *testing.T) {
	chance := rand.New(rand.NewSource(174))
	for range 400 {
		x := drawnTables(chance)
		p := chance.Intn(len(x.Parts))
		s := drawnPart(chance, x, p)
		s.Idle, s.Health.Halted = chance.Intn(2) == 0, chance.Intn(4) == 0
		wantSlot(t, x, p, s, chance.Intn(50001))
		wantRestart(t, x, p, s)
		for dev, owner := range x.Devs {
			if owner == p {
				wantInput(t, x, p, s, dev, chance.Uint32())
			} else {
				wantNoInput(t, "a device of another", x, p, s, dev)
			}
		}
	}
}

func TestPartRestartByNumbers(t *testing.T) {
	x := partTables()
	for _, halted := range []bool{false, true} {
		s := changedPart(fullPart(x, 0), func(s *impl.PartState) { s.Health.Halted = halted })
		got, is := impl.PartRestart(x, 0, s)
		if !is || got.Health != (impl.Health{Faults: 7, Restarts: 1}) || !got.Idle || got.Next != 777 || got.Virt != (impl.Virt{}) {
			t.Error(is, partText(got))
		}
		if got.Guest.PC != 8 || !slices.Equal(got.Guest.Regs, make([]uint32, 16)) || !slices.EqualFunc(got.Guest.Ram, s.Boot, bytes.Equal) {
			t.Error(got.Guest)
		}
		if !sameOut(got.Outs[0], impl.OutEnd{Held: 1}) || !sameOut(got.Outs[1], impl.OutEnd{}) || !sameOut(got.Outs[6], impl.OutEnd{Held: 4}) {
			t.Error(got.Outs)
		}
		if !slices.EqualFunc(got.Ins, s.Ins, sameIn) || !slices.EqualFunc(got.Devs, s.Devs, sameDev) || !sameCache(got.Cache, s.Cache) || !sameTlb(got.Tlb, s.Tlb) {
			t.Error(partText(got))
		}
	}
}

// Whatever the guest, its registers and its memory became, a restart leads back to what it booted from, as often as it is done.
func TestPartRestartLeadsBack(t *testing.T) {
	x := partTables()
	for p := range 3 {
		for _, idle := range []bool{false, true} {
			for _, halted := range []bool{false, true} {
				s := changedPart(fullPart(x, p), func(s *impl.PartState) { s.Idle, s.Health.Halted = idle, halted })
				wantRestart(t, x, p, s)
				once, _ := impl.PartRestart(x, p, s)
				wantRestart(t, x, p, once)
				twice, _ := impl.PartRestart(x, p, once)
				wantPart(t, "a second restart", twice, true, once, true)
			}
		}
		booted := bootByHand(x, p, imageOver(x.Parts[p].Windows))
		got, is := impl.PartRestart(x, p, booted)
		wantPart(t, "a restart at first", got, is, booted, true)
	}
}

func TestPartInputToEachDevice(t *testing.T) {
	x := partTables()
	for p := range 3 {
		for latch := range 9 {
			s := fullPart(x, p)
			for dev, owner := range x.Devs {
				if owner != p {
					wantNoInput(t, "a device of another", x, p, s, dev)
					continue
				}
				s.Devs[dev] = devOf(latch, 8-latch)
				for _, w := range []uint32{0, 1, 77, math.MaxUint32} {
					wantInput(t, x, p, s, dev, w)
				}
			}
		}
		for _, dev := range append(oddInts(), -1, -2, -5, 5, 6, 7, 8, 32) {
			wantNoInput(t, "no device", x, p, fullPart(x, p), dev)
			wantNoInput(t, "no device", leastTables(), 0, bootByHand(leastTables(), 0, [][]byte{{1, 2, 3, 4}}), dev)
		}
	}
}

func TestPartInputByNumbers(t *testing.T) {
	x := partTables()
	s := fullPart(x, 0)
	got, is := impl.PartInput(x, 0, s, 2, 9)
	wantPart(t, "with room", got, is, changedPart(s, func(s *impl.PartState) { s.Devs[2].Latch = []uint32{320, 321, 9} }), true)
	full := changedPart(s, func(s *impl.PartState) { s.Devs[2].Latch = numbered(1, 8) })
	got, is = impl.PartInput(x, 0, full, 2, 9)
	wantPart(t, "without room", got, is, full, false)
	// Neither one that is halted nor one that is idle is asked.
	still := changedPart(s, func(s *impl.PartState) { s.Health.Halted, s.Idle = true, true })
	wantInput(t, x, 0, still, 4, 9)
}
