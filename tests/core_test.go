package tests

import (
	"bytes"
	"math"
	"math/big"
	"math/rand"
	"slices"
	"testing"

	"loop.example/g00076/impl"
)

func sameGuest(a impl.Guest, b impl.Guest) bool {
	return a.PC == b.PC && slices.Equal(a.Regs, b.Regs) && slices.EqualFunc(a.Ram, b.Ram, bytes.Equal)
}

func isNoGuest(g impl.Guest) bool {
	return g.PC == 0 && len(g.Regs) == 0 && len(g.Ram) == 0
}

func sameStep(a impl.Step, b impl.Step) bool {
	told := a.Fault == b.Fault && a.Op == b.Op && a.Touch == b.Touch && a.Wrote == b.Wrote && a.Calls == b.Calls
	return told && sameGuest(a.Guest, b.Guest)
}

func copyGuest(g impl.Guest) impl.Guest {
	g.Regs = slices.Clone(g.Regs)
	ram := make([][]byte, len(g.Ram))
	for at, part := range g.Ram {
		ram[at] = slices.Clone(part)
	}
	g.Ram = ram
	return g
}

// guestOver is made without the program's help; no two bytes beside each other and no two registers are alike in it.
func guestOver(ws []impl.Window) impl.Guest {
	g := impl.Guest{PC: 0x01020304}
	for n := range uint32(16) {
		g.Regs = append(g.Regs, n*0x01010101)
	}
	for at, w := range ws {
		part := make([]byte, max(0, min(w.Size, 4096)))
		for k := range part {
			part[k] = byte(17 + 31*at + 3*k)
		}
		g.Ram = append(g.Ram, part)
	}
	return g
}

// layWord writes a word into the guest's memory, whatever the windows allow; addr and all its bytes lie in one window.
func layWord(ws []impl.Window, g impl.Guest, addr int, w uint32) {
	for at, in := range ws {
		if addr >= in.Base && addr < in.Base+in.Size {
			for k := range 4 {
				g.Ram[at][addr-in.Base+k] = byte(w / uint32(math.Pow(256, float64(k))))
			}
		}
	}
}

// byteByHand asks each window for the address.
func byteByHand(ws []impl.Window, g impl.Guest, addr uint32) byte {
	for at, w := range ws {
		if int(addr) >= w.Base && int(addr) < w.Base+w.Size {
			return g.Ram[at][int(addr)-w.Base]
		}
	}
	return 0
}

// valueByHand sums bytes by their weights.
func valueByHand(ws []impl.Window, g impl.Guest, addr uint32, size int) uint32 {
	sum, weight := uint32(0), uint32(1)
	for k := range uint32(size) {
		sum += weight * uint32(byteByHand(ws, g, addr+k))
		weight *= 256
	}
	return sum
}

// writtenByHand is a copy of g in which the lowest bytes of x stand from addr on.
func writtenByHand(ws []impl.Window, g impl.Guest, addr uint32, size int, x uint32) impl.Guest {
	g = copyGuest(g)
	for k := range size {
		for at, w := range ws {
			if to := int(addr) + k - w.Base; to >= 0 && to < w.Size {
				g.Ram[at][to] = byte(x % 256)
			}
		}
		x /= 256
	}
	return g
}

// bitsByHand puts two words together bit by bit.
func bitsByHand(a uint32, b uint32, least int) uint32 {
	sum := uint32(0)
	for k := range 32 {
		if int(a>>k%2+b>>k%2) >= least {
			sum += 1 << k
		}
	}
	return sum
}

func signedByHand(x uint32) int {
	if x >= 1<<31 {
		return int(x) - 1<<32
	}
	return int(x)
}

func oneByHand(is bool) uint32 {
	return map[bool]uint32{true: 1, false: 0}[is]
}

// shiftByHand goes one place at a time; high is what comes in from above.
func shiftByHand(a uint32, places uint32, left bool, high uint32) uint32 {
	for range places & 31 {
		if left {
			a += a
		} else {
			a = a/2 + high<<31
		}
	}
	return a
}

// aluByHand leans on numbers without end, on single bits and on single places.
func aluByHand(op int, a uint32, b uint32) (uint32, int) {
	whole := new(big.Int)
	x, y := big.NewInt(int64(a)), big.NewInt(int64(b))
	wrap := func() (uint32, int) {
		return uint32(whole.Mod(whole, big.NewInt(1<<32)).Uint64()), 0
	}
	switch op {
	case 1:
		whole.Add(x, y)
		return wrap()
	case 2:
		whole.Sub(x, y)
		return wrap()
	case 3:
		return bitsByHand(a, b, 2), 0
	case 4:
		return bitsByHand(a, b, 1), 0
	case 5:
		return bitsByHand(a, b, 1) - bitsByHand(a, b, 2), 0
	case 6:
		return shiftByHand(a, b, true, 0), 0
	case 7:
		return shiftByHand(a, b, false, 0), 0
	case 8:
		return shiftByHand(a, b, false, a>>31), 0
	case 9:
		whole.Mul(x, y)
		return wrap()
	case 10:
		if b == 0 {
			return 0, 5
		}
		whole.Div(x, y)
		return wrap()
	case 11:
		return oneByHand(signedByHand(a) < signedByHand(b)), 0
	case 12:
		return oneByHand(x.Cmp(y) < 0), 0
	}
	return 0, 4
}

func takenByHand(op int, a uint32, b uint32) bool {
	less := signedByHand(a) < signedByHand(b)
	return map[int]bool{19: a == b, 20: a != b, 21: less}[op]
}

// mod32 is n as a word, by a remainder that is never below 0.
func mod32(n int) uint32 {
	return uint32(((n % (1 << 32)) + 1<<32) % (1 << 32))
}

// stepByHand goes down the document's list; the guest that it is given is right.
func stepByHand(ws []impl.Window, g impl.Guest, cycle int) impl.Step {
	owners := ownersByHand(ws)
	s := impl.Step{Guest: copyGuest(g), Op: -1, Touch: -1}
	if s.Fault = faultByHand(ws, owners, g.PC, 4, 4); s.Fault != 0 {
		return s
	}
	i, ok := impl.Decode(valueByHand(ws, g, g.PC, 4))
	if !ok {
		s.Fault = 4
		return s
	}
	s.Op = i.Op
	if i.Op >= 25 {
		s.Calls = true
		return s
	}
	next := mod32(int(g.PC) + 4)
	target := mod32(int(g.PC) + 4 + 4*i.Imm)
	there := mod32(int(g.Regs[i.B]) + i.Imm)
	a, b, c := g.Regs[i.A], g.Regs[i.B], g.Regs[i.C]
	into, x, goes := 0, uint32(0), next
	switch {
	case i.Op == 0:
	case i.Op <= 12:
		into = i.A
		x, s.Fault = aluByHand(i.Op, b, c)
	case i.Op == 13:
		into, x = i.A, there
	case i.Op == 14:
		into, x = i.A, mod32(i.Imm*16384)
	case i.Op == 15 || i.Op == 17:
		size := map[int]int{15: 4, 17: 1}[i.Op]
		if s.Fault = faultByHand(ws, owners, there, size, 1); s.Fault == 0 {
			into, x, s.Touch = i.A, valueByHand(ws, g, there, size), int(there)
		}
	case i.Op == 16 || i.Op == 18:
		size := map[int]int{16: 4, 18: 1}[i.Op]
		if s.Fault = faultByHand(ws, owners, there, size, 2); s.Fault == 0 {
			s.Guest, s.Touch, s.Wrote = writtenByHand(ws, g, there, size, a), int(there), true
		}
	case i.Op <= 21:
		if takenByHand(i.Op, a, b) {
			goes = target
		}
	case i.Op == 22:
		into, x, goes = i.A, next, target
	case i.Op == 23:
		goes = there
	case i.Op == 24:
		into, x = i.A, mod32(cycle)
	}
	if s.Fault != 0 {
		return s
	}
	if into != 0 {
		s.Guest.Regs[into] = x
	}
	s.Guest.PC = goes
	return s
}

// nearWord is one of the words at which sums wrap and signs turn, or an address in or beside a window.
func nearWord(chance *rand.Rand, ws []impl.Window) uint32 {
	edges := []uint32{0, 1, 2, 3, 4, 31, 32, 33, 2047, 2048, 1<<31 - 1, 1 << 31, 1<<31 + 1, 1<<32 - 4, 1<<32 - 1}
	if chance.Intn(4) == 0 {
		return edges[chance.Intn(len(edges))]
	}
	if len(ws) == 0 || chance.Intn(6) == 0 {
		return chance.Uint32()
	}
	w := ws[chance.Intn(len(ws))]
	addr := w.Base + chance.Intn(w.Size)
	if chance.Intn(3) > 0 {
		addr = w.Base + chance.Intn(2)*w.Size + chance.Intn(3)*4 - 4
	}
	return uint32(addr)
}

// drawnGuest is right; its PC is for the most part at a word in a window.
func drawnGuest(chance *rand.Rand, ws []impl.Window) impl.Guest {
	g := impl.Guest{Regs: []uint32{0}, PC: nearWord(chance, ws)}
	for range 15 {
		g.Regs = append(g.Regs, nearWord(chance, ws))
	}
	for _, w := range ws {
		part := make([]byte, w.Size)
		chance.Read(part)
		g.Ram = append(g.Ram, part)
	}
	return g
}

// drawnInstr is a right one of an op; registers are often the same, often 0 or 15, and Imm is often small.
func drawnInstr(chance *rand.Rand, row opRow) impl.Instr {
	regs := []int{0, 0, 15, chance.Intn(16), chance.Intn(16), chance.Intn(16)}
	reg := func() int { return regs[chance.Intn(len(regs))] }
	imms := []int{0, 0, 0, 1, -1, 4, -4, 8, -8, 8191, -8192, chance.Intn(16384) - 8192}
	return row.right(reg(), reg(), reg(), imms[chance.Intn(len(imms))])
}

// runnable is a right guest over windows of which one may be run, with the instruction at its PC.
func runnable(chance *rand.Rand, i impl.Instr) ([]impl.Window, impl.Guest) {
	ws := drawnWindows(chance, 1+chance.Intn(4))
	at := chance.Intn(len(ws))
	ws[at].Perm = []int{4, 5, 6, 7}[chance.Intn(4)]
	g := drawnGuest(chance, ws)
	places := []int{0, ws[at].Size/4 - 1, chance.Intn(ws[at].Size / 4)}
	g.PC = uint32(ws[at].Base + 4*places[chance.Intn(3)])
	layWord(ws, g, int(g.PC), wordByHand(i))
	return ws, g
}

func wantStep(t *testing.T, ws []impl.Window, g impl.Guest, cycle int, want impl.Step) {
	t.Helper()
	before := copyGuest(g)
	if got := impl.CoreStep(ws, g, cycle); !sameStep(got, want) {
		t.Errorf("CoreStep over %v with registers %x at %d and cycle %d: %+v, not %+v", ws, g.Regs, g.PC, cycle, got, want)
	}
	if !sameGuest(g, before) {
		t.Errorf("CoreStep over %v wrote into its guest", ws)
	}
}

// wrongGuests have one thing wrong each beside windows that are right, told by its name.
func wrongGuests(ws []impl.Window) map[string]impl.Guest {
	right := guestOver(ws)
	wrong := map[string]impl.Guest{}
	add := func(name string, change func(g *impl.Guest)) {
		g := copyGuest(right)
		change(&g)
		wrong[name] = g
	}
	add("no registers", func(g *impl.Guest) { g.Regs = nil })
	add("one register", func(g *impl.Guest) { g.Regs = g.Regs[:1] })
	add("15 registers", func(g *impl.Guest) { g.Regs = g.Regs[:15] })
	add("17 registers", func(g *impl.Guest) { g.Regs = append(g.Regs, 0) })
	add("32 registers", func(g *impl.Guest) { g.Regs = append(g.Regs, g.Regs...) })
	for _, x := range []uint32{1, 256, 1 << 16, 1 << 31, math.MaxUint32} {
		add("register 0 is "+impl.HexWord(x), func(g *impl.Guest) { g.Regs[0] = x })
	}
	add("an empty list of bytes too many", func(g *impl.Guest) { g.Ram = append(g.Ram, nil) })
	add("a list of bytes too many", func(g *impl.Guest) { g.Ram = append(g.Ram, make([]byte, 4)) })
	if len(ws) > 0 {
		wrong["the zero value"] = impl.Guest{}
		add("no list of bytes", func(g *impl.Guest) { g.Ram = nil })
		add("a list of bytes too few", func(g *impl.Guest) { g.Ram = g.Ram[:len(g.Ram)-1] })
		add("the first list is lacking", func(g *impl.Guest) { g.Ram = g.Ram[1:] })
	}
	for at, w := range ws {
		place := " at place " + impl.DecText(at)
		add("an empty list"+place, func(g *impl.Guest) { g.Ram[at] = nil })
		add("one byte too long"+place, func(g *impl.Guest) { g.Ram[at] = append(g.Ram[at], 0) })
		add("one byte too short"+place, func(g *impl.Guest) { g.Ram[at] = g.Ram[at][:w.Size-1] })
		add("a word too long"+place, func(g *impl.Guest) { g.Ram[at] = append(g.Ram[at], 0, 0, 0, 0) })
		add("a word too short"+place, func(g *impl.Guest) { g.Ram[at] = g.Ram[at][:w.Size-4] })
		if at > 0 && w.Size != ws[at-1].Size {
			add("two lists that changed places"+place, func(g *impl.Guest) { g.Ram[at], g.Ram[at-1] = g.Ram[at-1], g.Ram[at] })
		}
	}
	return wrong
}

// wantState asks every function what it says of a guest that is not right over its windows.
func wantState(t *testing.T, name string, ws []impl.Window, g impl.Guest) {
	t.Helper()
	if impl.GuestOk(ws, g) {
		t.Errorf("%s: GuestOk over %v", name, ws)
	}
	for _, addr := range []uint32{0, 1, 4, 8, 2044, 2048, math.MaxUint32} {
		for _, size := range []int{-1, 0, 1, 2, 4, 8} {
			if x, fault := impl.Peek(ws, g, addr, size); x != 0 || fault != 9 {
				t.Errorf("%s: Peek at %d of %d = %d, %d", name, addr, size, x, fault)
			}
			if after, fault := impl.Poke(ws, g, addr, size, 7); !isNoGuest(after) || fault != 9 {
				t.Errorf("%s: Poke at %d of %d = %v, %d", name, addr, size, after, fault)
			}
		}
		g.PC = addr
		if x, fault := impl.Fetch(ws, g); x != 0 || fault != 9 {
			t.Errorf("%s: Fetch at %d = %d, %d", name, addr, x, fault)
		}
		got := impl.CoreStep(ws, g, 5)
		if !isNoGuest(got.Guest) || !sameStep(got, impl.Step{Fault: 9, Op: -1, Touch: -1}) {
			t.Errorf("%s: CoreStep at %d = %+v", name, addr, got)
		}
	}
}

func TestGuestsThatAreRight(t *testing.T) {
	for _, ws := range someWindowLists() {
		g := guestOver(ws)
		for _, pc := range []uint32{0, 1, 4, 2048, 1 << 31, math.MaxUint32} {
			g.PC = pc
			if !impl.GuestOk(ws, g) {
				t.Errorf("a guest over %v at %d is not right", ws, pc)
			}
		}
	}
	if !impl.GuestOk(nil, impl.Guest{Regs: make([]uint32, 16)}) || !impl.GuestOk([]impl.Window{}, impl.Guest{Regs: make([]uint32, 16), Ram: [][]byte{}}) {
		t.Error("a guest without windows is not right")
	}
}

func TestGuestsThatAreWrong(t *testing.T) {
	for _, ws := range someWindowLists()[:20] {
		for name, g := range wrongGuests(ws) {
			wantState(t, name, ws, g)
		}
	}
	wantState(t, "no registers and no windows", nil, impl.Guest{})
}

// The guest has just as many bytes as the windows say, so that the windows alone are wrong.
func TestGuestsOverWindowsThatAreWrong(t *testing.T) {
	for name, ws := range wrongWindowLists() {
		wantState(t, name, ws, guestOver(ws))
		for _, entry := range []int{0, 4, 5} {
			if g := impl.GuestNew(ws, entry); !isNoGuest(g) {
				t.Errorf("%s: GuestNew at %d = %v", name, entry, g)
			}
		}
	}
}

func TestNewGuests(t *testing.T) {
	entries := map[int]uint32{
		-1: math.MaxUint32, 0: 0, 4: 4, 5: 5, 2048: 2048, -4: 4294967292, math.MaxInt: math.MaxUint32, math.MinInt: 0, math.MinInt + 3: 3,
		1<<32 - 1: math.MaxUint32, 1 << 32: 0, 1<<32 + 8: 8, -1 << 32: 0, -1<<32 - 1: math.MaxUint32, 1<<40 + 12: 12, 1 << 31: 1 << 31,
	}
	for _, ws := range someWindowLists() {
		want := impl.Guest{Regs: make([]uint32, 16)}
		for _, w := range ws {
			want.Ram = append(want.Ram, make([]byte, w.Size))
		}
		for entry, pc := range entries {
			want.PC = pc
			g := impl.GuestNew(ws, entry)
			if !sameGuest(g, want) || !impl.GuestOk(ws, g) {
				t.Errorf("GuestNew(%v, %d) = %v", ws, entry, g)
			}
		}
	}
}

func wantRegSet(t *testing.T, g impl.Guest, n int, x uint32) {
	t.Helper()
	want := copyGuest(g)
	if n > 0 {
		want.Regs[n] = x
	}
	if got := impl.RegSet(g, n, x); !sameGuest(got, want) {
		t.Errorf("RegSet(%v, %d, %d) = %v", g, n, x, got)
	}
}

func TestRegSetAtEachRegister(t *testing.T) {
	for _, ws := range someWindowLists() {
		for n := range 16 {
			for _, x := range []uint32{0, 1, 1 << 31, math.MaxUint32} {
				wantRegSet(t, guestOver(ws), n, x)
			}
		}
	}
	none := append(oddInts(), -16, -15, -2, -1, 16, 17, 31, 32)
	for _, n := range none {
		if g := impl.RegSet(guestOver([]impl.Window{win(0, 8, 7)}), n, 5); !isNoGuest(g) {
			t.Errorf("RegSet at %d = %v", n, g)
		}
	}
}

// RegSet asks for sixteen registers and for nothing else of the guest.
func TestRegSetOfGuestsThatAreWrong(t *testing.T) {
	ws := []impl.Window{win(0, 8, 7), win(16, 4, 3)}
	for name, g := range wrongGuests(ws) {
		for n := range 16 {
			if len(g.Regs) == 16 {
				wantRegSet(t, g, n, 99)
			} else if got := impl.RegSet(g, n, 99); !isNoGuest(got) {
				t.Errorf("%s: RegSet at %d = %v", name, n, got)
			}
		}
	}
	wantRegSet(t, impl.Guest{Regs: make([]uint32, 16)}, 3, 4)
	wantRegSet(t, impl.Guest{Regs: slices.Repeat([]uint32{7}, 16), PC: 3, Ram: [][]byte{{1, 2, 3}, nil, {4}}}, 0, 4)
	wantRegSet(t, impl.Guest{Regs: slices.Repeat([]uint32{7}, 16), PC: 3, Ram: [][]byte{{1, 2, 3}, nil, {4}}}, 15, 4)
}

// endsOf are the first and the last byte and word of each window, and those beside them.
func endsOf(ws []impl.Window) []uint32 {
	addrs := []uint32{0, 2047, 2048, 1 << 31, math.MaxUint32 - 3, math.MaxUint32}
	for _, w := range ws {
		for _, step := range []int{-5, -4, -3, -2, -1, 0, 1, 2, 3, 4, 5} {
			addrs = append(addrs, mod32(w.Base+step), mod32(w.Base+w.Size+step))
		}
	}
	return addrs
}

func wantPeek(t *testing.T, ws []impl.Window, g impl.Guest, addr uint32, size int) {
	t.Helper()
	want, told := uint32(0), 9
	if size == 1 || size == 4 {
		told = faultByHand(ws, ownersByHand(ws), addr, size, 1)
	}
	if told == 0 {
		want = valueByHand(ws, g, addr, size)
	}
	if x, fault := impl.Peek(ws, g, addr, size); x != want || fault != told {
		t.Errorf("Peek over %v at %d of %d = %d, %d, not %d, %d", ws, addr, size, x, fault, want, told)
	}
}

func wantPoke(t *testing.T, ws []impl.Window, g impl.Guest, addr uint32, size int, x uint32) {
	t.Helper()
	want, told := g, 9
	if size == 1 || size == 4 {
		told = faultByHand(ws, ownersByHand(ws), addr, size, 2)
	}
	if told == 0 {
		want = writtenByHand(ws, g, addr, size, x)
	}
	before := copyGuest(g)
	if after, fault := impl.Poke(ws, g, addr, size, x); !sameGuest(after, want) || fault != told {
		t.Errorf("Poke over %v at %d of %d: %v, %d, not %v, %d", ws, addr, size, after, fault, want, told)
	}
	if !sameGuest(g, before) {
		t.Errorf("Poke over %v at %d of %d wrote into its guest", ws, addr, size)
	}
}

func TestPeekAndPokeAtTheEndsOfWindows(t *testing.T) {
	for _, ws := range someWindowLists() {
		g := guestOver(ws)
		for _, addr := range endsOf(ws) {
			for _, size := range []int{-4, -1, 0, 1, 2, 3, 4, 5, 8, 1 << 32, 1<<32 + 1, 1<<32 + 4, math.MinInt, math.MaxInt} {
				wantPeek(t, ws, g, addr, size)
				wantPoke(t, ws, g, addr, size, 0xfedcba98)
			}
		}
	}
}

func TestPeekAndPokeByNumbers(t *testing.T) {
	ws := []impl.Window{win(16, 8, 3), win(0, 4, 1), win(8, 4, 2), win(32, 4, 4)}
	g := impl.Guest{Regs: make([]uint32, 16), PC: 7, Ram: [][]byte{{1, 2, 3, 4, 5, 6, 7, 255}, {9, 8, 7, 6}, {11, 12, 13, 14}, {21, 22, 23, 24}}}
	peeks := []struct {
		addr uint32
		size int
		x    uint32
		told int
	}{
		{16, 4, 0x04030201, 0}, {20, 4, 0xff070605, 0}, {16, 1, 1, 0}, {23, 1, 255, 0}, {0, 4, 0x06070809, 0}, {3, 1, 6, 0},
		{18, 4, 0, impl.FaultAlign}, {24, 4, 0, impl.FaultWindow}, {12, 4, 0, impl.FaultWindow}, {15, 1, 0, impl.FaultWindow}, {24, 1, 0, impl.FaultWindow},
		{4, 1, 0, impl.FaultWindow}, {26, 4, 0, impl.FaultAlign}, {8, 4, 0, impl.FaultPerm}, {11, 1, 0, impl.FaultPerm}, {32, 4, 0, impl.FaultPerm},
		{33, 4, 0, impl.FaultAlign}, {16, 2, 0, impl.FaultState}, {16, 0, 0, impl.FaultState}, {16, 8, 0, impl.FaultState}, {18, 2, 0, impl.FaultState},
	}
	for _, p := range peeks {
		if x, told := impl.Peek(ws, g, p.addr, p.size); x != p.x || told != p.told {
			t.Errorf("Peek at %d of %d = %d, %d", p.addr, p.size, x, told)
		}
	}
	after, told := impl.Poke(ws, g, 20, 4, 0x0a0b0c0d)
	if told != 0 || after.PC != 7 || !bytes.Equal(after.Ram[0], []byte{1, 2, 3, 4, 13, 12, 11, 10}) {
		t.Errorf("Poke of a word: %v, %d", after, told)
	}
	after, told = impl.Poke(ws, after, 23, 1, 0x0a0b0c0d)
	if told != 0 || !bytes.Equal(after.Ram[0], []byte{1, 2, 3, 4, 13, 12, 11, 13}) {
		t.Errorf("Poke of a byte: %v, %d", after, told)
	}
	for addr, fault := range map[uint32]int{0: impl.FaultPerm, 32: impl.FaultPerm, 9: impl.FaultAlign, 4: impl.FaultWindow, 2048: impl.FaultWindow} {
		if after, told := impl.Poke(ws, g, addr, 4, 1); told != fault || !sameGuest(after, g) {
			t.Errorf("Poke at %d: %v, %d", addr, after, told)
		}
	}
}

func TestFetchAsByHand(t *testing.T) {
	for _, ws := range someWindowLists() {
		g := guestOver(ws)
		for _, addr := range endsOf(ws) {
			g.PC = addr
			want, told := uint32(0), faultByHand(ws, ownersByHand(ws), addr, 4, 4)
			if told == 0 {
				want = valueByHand(ws, g, addr, 4)
			}
			if x, fault := impl.Fetch(ws, g); x != want || fault != told {
				t.Errorf("Fetch over %v at %d = %d, %d, not %d, %d", ws, addr, x, fault, want, told)
			}
		}
	}
	ws := []impl.Window{win(0, 4, 4), win(4, 4, 3)}
	g := impl.Guest{Regs: make([]uint32, 16), Ram: [][]byte{{1, 2, 3, 200}, {5, 6, 7, 8}}}
	for pc, want := range map[uint32][2]int{0: {0xc8030201, 0}, 4: {0, 3}, 8: {0, 2}, 2: {0, 1}, 6: {0, 1}, 9: {0, 1}, math.MaxUint32: {0, 1}} {
		g.PC = pc
		if x, told := impl.Fetch(ws, g); int(x) != want[0] || told != want[1] {
			t.Errorf("Fetch at %d = %d, %d", pc, x, told)
		}
	}
}

// Promise 8: what is written is read, and nothing else changes.
func TestWhatIsWrittenIsRead(t *testing.T) {
	chance := rand.New(rand.NewSource(8))
	for round := range 400 {
		ws := drawnWindows(chance, 1+round%4)
		for at := range ws {
			ws[at].Perm = 3 + 4*chance.Intn(2)
		}
		g := drawnGuest(chance, ws)
		for _, size := range []int{1, 4} {
			w := ws[chance.Intn(len(ws))]
			places := []int{0, w.Size/size - 1, chance.Intn(w.Size / size)}
			addr := uint32(w.Base + size*places[chance.Intn(3)])
			x := chance.Uint32()
			after, told := impl.Poke(ws, g, addr, size, x)
			if told != 0 || !impl.GuestOk(ws, after) || after.PC != g.PC || !slices.Equal(after.Regs, g.Regs) {
				t.Fatalf("Poke over %v at %d of %d: %v, %d", ws, addr, size, after, told)
			}
			if y, told := impl.Peek(ws, after, addr, size); told != 0 || y != x&uint32(1<<(8*size)-1) {
				t.Fatalf("%d at %d of %d is read as %d, %d", x, addr, size, y, told)
			}
			for other := range uint32(2048) {
				old, toldOld := impl.Peek(ws, g, other, 1)
				now, toldNow := impl.Peek(ws, after, other, 1)
				if outside := other < addr || other >= addr+uint32(size); outside && old != now || toldOld != toldNow {
					t.Fatalf("Poke at %d of %d changed what is at %d", addr, size, other)
				}
			}
		}
	}
}

func TestAluByNumbers(t *testing.T) {
	const least, most = 1 << 31, math.MaxUint32
	rows := []struct {
		op   int
		a, b uint32
		x    uint32
	}{
		{impl.OpAdd, most, 1, 0}, {impl.OpAdd, least, least, 0}, {impl.OpAdd, 3, 4, 7}, {impl.OpAdd, least - 1, 1, least},
		{impl.OpSub, 0, 1, most}, {impl.OpSub, 7, 4, 3}, {impl.OpSub, least, 1, least - 1}, {impl.OpSub, 0, least, least},
		{impl.OpAnd, 12, 10, 8}, {impl.OpOr, 12, 10, 14}, {impl.OpXor, 12, 10, 6},
		{impl.OpShl, 3, 0, 3}, {impl.OpShl, 3, 31, least}, {impl.OpShl, 3, 32, 3}, {impl.OpShl, 3, 33, 6}, {impl.OpShl, 1, most, least},
		{impl.OpShr, least, 0, least}, {impl.OpShr, least, 31, 1}, {impl.OpShr, least, 32, least}, {impl.OpShr, least, 33, least / 2}, {impl.OpShr, most, most, 1},
		{impl.OpSar, least, 0, least}, {impl.OpSar, least, 31, most}, {impl.OpSar, least, 32, least}, {impl.OpSar, least, 33, 3 << 30}, {impl.OpSar, least - 1, 31, 0},
		{impl.OpMul, 65536, 65536, 0}, {impl.OpMul, most, most, 1}, {impl.OpMul, 6, 7, 42}, {impl.OpMul, least, 2, 0},
		{impl.OpDiv, 7, 2, 3}, {impl.OpDiv, most, 2, least - 1}, {impl.OpDiv, least, most, 0}, {impl.OpDiv, most, most, 1}, {impl.OpDiv, 0, 5, 0}, {impl.OpDiv, most, 1, most},
		{impl.OpSlt, least, 0, 1}, {impl.OpSlt, 0, least, 0}, {impl.OpSlt, most, 0, 1}, {impl.OpSlt, 5, 5, 0}, {impl.OpSlt, least, least - 1, 1},
		{impl.OpSltu, least, 0, 0}, {impl.OpSltu, 0, least, 1}, {impl.OpSltu, most, 0, 0}, {impl.OpSltu, 5, 5, 0}, {impl.OpSltu, least - 1, least, 1},
	}
	for _, r := range rows {
		if x, told := impl.Alu(r.op, r.a, r.b); x != r.x || told != impl.FaultNone {
			t.Errorf("Alu(%d, %d, %d) = %d, %d, not %d", r.op, r.a, r.b, x, told, r.x)
		}
	}
}

func TestAluAsByHand(t *testing.T) {
	words := append(someWords()[:60], 31, 32, 33, 63, 64, 65)
	ops := append(noOps(), oddInts()...)
	for op := -3; op <= 40; op++ {
		ops = append(ops, op)
	}
	for _, op := range ops {
		for _, a := range words {
			for _, b := range words {
				want, fault := aluByHand(op, a, b)
				if x, told := impl.Alu(op, a, b); x != want || told != fault {
					t.Fatalf("Alu(%d, %d, %d) = %d, %d, not %d, %d", op, a, b, x, told, want, fault)
				}
			}
		}
	}
}

func TestDivisionByNought(t *testing.T) {
	for _, a := range someWords() {
		if x, told := impl.Alu(impl.OpDiv, a, 0); x != 0 || told != impl.FaultDivide {
			t.Errorf("%d by 0 is %d, %d", a, x, told)
		}
	}
}

// Promise 8: what is added is taken away again.
func TestWhatIsAddedIsTakenAway(t *testing.T) {
	for _, a := range someWords() {
		for _, b := range someWords() {
			sum, told := impl.Alu(impl.OpAdd, a, b)
			back, toldBack := impl.Alu(impl.OpSub, sum, b)
			if told != 0 || toldBack != 0 || back != a {
				t.Fatalf("%d and %d away again is %d", a, b, back)
			}
			less, told := impl.Alu(impl.OpSub, a, b)
			back, toldBack = impl.Alu(impl.OpAdd, less, b)
			if told != 0 || toldBack != 0 || back != a {
				t.Fatalf("%d less %d and %d again is %d", a, b, b, back)
			}
		}
	}
}

func TestTakenAsByHand(t *testing.T) {
	words := someWords()[:80]
	ops := append(noOps(), oddInts()...)
	for op := -3; op <= 40; op++ {
		ops = append(ops, op)
	}
	for _, op := range ops {
		for _, a := range words {
			for _, b := range append(words, a) {
				if impl.Taken(op, a, b) != takenByHand(op, a, b) {
					t.Fatalf("Taken(%d, %d, %d)", op, a, b)
				}
			}
		}
	}
	if !impl.Taken(impl.OpBeq, 5, 5) || impl.Taken(impl.OpBeq, 5, 6) || !impl.Taken(impl.OpBne, 5, 6) || impl.Taken(impl.OpBne, 5, 5) {
		t.Error("beq and bne")
	}
	if !impl.Taken(impl.OpBlt, 1<<31, 1<<31-1) || impl.Taken(impl.OpBlt, 0, math.MaxUint32) || impl.Taken(impl.OpBlt, 7, 7) || !impl.Taken(impl.OpBlt, 6, 7) {
		t.Error("blt")
	}
}

// smallCore has a window that is run, one that is read and written, one for reading, one for writing; the instruction is at 8.
func smallCore(i impl.Instr) ([]impl.Window, impl.Guest) {
	ws := []impl.Window{win(0, 16, 4), win(64, 8, 3), win(80, 4, 1), win(96, 4, 2)}
	g := guestOver(ws)
	copy(g.Ram[1], []byte{0xf1, 2, 3, 4, 5, 6, 7, 0xf8})
	g.Regs[1], g.Regs[2], g.Regs[3], g.Regs[15] = 68, 5, math.MaxUint32, 0x89abcdef
	g.PC = 8
	layWord(ws, g, 8, wordByHand(i))
	return ws, g
}

// wantMade asks for what a step makes of one register (none where it is 0) and of PC, with no fault and no memory touched.
func wantMade(t *testing.T, i impl.Instr, into int, x uint32, pc uint32) {
	t.Helper()
	ws, g := smallCore(i)
	want := copyGuest(g)
	if into != 0 {
		want.Regs[into] = x
	}
	want.PC = pc
	wantStep(t, ws, g, -7, impl.Step{Guest: want, Op: i.Op, Touch: -1})
}

func TestStepsByNumbers(t *testing.T) {
	type in = impl.Instr
	wantMade(t, in{Op: impl.OpNop}, 0, 0, 12)
	wantMade(t, in{Op: impl.OpAdd, A: 4, B: 1, C: 2}, 4, 73, 12)
	wantMade(t, in{Op: impl.OpAdd, A: 15, B: 3, C: 2}, 15, 4, 12)
	wantMade(t, in{Op: impl.OpSub, A: 1, B: 2, C: 1}, 1, 4294967233, 12)
	wantMade(t, in{Op: impl.OpDiv, A: 2, B: 3, C: 2}, 2, 858993459, 12)
	wantMade(t, in{Op: impl.OpSlt, A: 2, B: 3, C: 0}, 2, 1, 12)
	wantMade(t, in{Op: impl.OpAdd, A: 0, B: 1, C: 2}, 0, 0, 12)
	wantMade(t, in{Op: impl.OpAddi, A: 4, B: 0, Imm: -8192}, 4, 4294959104, 12)
	wantMade(t, in{Op: impl.OpAddi, A: 3, B: 3, Imm: 1}, 3, 0, 12)
	wantMade(t, in{Op: impl.OpAddi, A: 0, B: 3, Imm: 8191}, 0, 0, 12)
	wantMade(t, in{Op: impl.OpLui, A: 4, Imm: 1}, 4, 16384, 12)
	wantMade(t, in{Op: impl.OpLui, A: 4, Imm: -1}, 4, 4294950912, 12)
	wantMade(t, in{Op: impl.OpLui, A: 4, Imm: -8192}, 4, 4160749568, 12)
	wantMade(t, in{Op: impl.OpLui, A: 15, Imm: 8191}, 15, 134201344, 12)
	wantMade(t, in{Op: impl.OpLui, A: 0, Imm: 3}, 0, 0, 12)
	wantMade(t, in{Op: impl.OpBeq, A: 2, B: 2, Imm: 3}, 0, 0, 24)
	wantMade(t, in{Op: impl.OpBeq, A: 2, B: 1, Imm: 3}, 0, 0, 12)
	wantMade(t, in{Op: impl.OpBne, A: 2, B: 1, Imm: -4}, 0, 0, 4294967292)
	wantMade(t, in{Op: impl.OpBne, A: 2, B: 2, Imm: -4}, 0, 0, 12)
	wantMade(t, in{Op: impl.OpBlt, A: 3, B: 0, Imm: 8191}, 0, 0, 32776)
	wantMade(t, in{Op: impl.OpBlt, A: 0, B: 3, Imm: 8191}, 0, 0, 12)
	wantMade(t, in{Op: impl.OpBeq, A: 0, B: 0, Imm: -1}, 0, 0, 8)
	wantMade(t, in{Op: impl.OpJal, A: 4, Imm: 2}, 4, 12, 20)
	wantMade(t, in{Op: impl.OpJal, A: 0, Imm: -8192}, 0, 0, 4294934540)
	wantMade(t, in{Op: impl.OpJal, A: 15, Imm: 0}, 15, 12, 12)
	wantMade(t, in{Op: impl.OpJr, B: 1, Imm: -3}, 0, 0, 65)
	wantMade(t, in{Op: impl.OpJr, B: 3, Imm: 2}, 0, 0, 1)
	wantMade(t, in{Op: impl.OpJr, B: 0, Imm: -4}, 0, 0, 4294967292)
	wantMade(t, in{Op: impl.OpRdc, A: 4}, 4, 4294967289, 12)
	wantMade(t, in{Op: impl.OpRdc, A: 0}, 0, 0, 12)
}

func TestCyclesAsWords(t *testing.T) {
	ws, g := smallCore(impl.Instr{Op: impl.OpRdc, A: 15})
	cycles := map[int]uint32{0: 0, 1: 1, -1: math.MaxUint32, 1<<32 - 1: math.MaxUint32, 1 << 32: 0, 1<<32 + 9: 9, -1 << 32: 0, -1<<32 + 5: 5, math.MaxInt: math.MaxUint32, math.MinInt: 0, 1 << 31: 1 << 31}
	for cycle, x := range cycles {
		want := copyGuest(g)
		want.Regs[15], want.PC = x, 12
		wantStep(t, ws, g, cycle, impl.Step{Guest: want, Op: impl.OpRdc, Touch: -1})
	}
}

func TestLoadsAndStoresByNumbers(t *testing.T) {
	loads := []struct {
		i     impl.Instr
		x     uint32
		touch int
	}{
		{impl.Instr{Op: impl.OpLw, A: 4, B: 1}, 0xf8070605, 68},
		{impl.Instr{Op: impl.OpLw, A: 15, B: 1, Imm: -4}, 0x040302f1, 64},
		{impl.Instr{Op: impl.OpLw, A: 1, B: 3, Imm: 65}, 0x040302f1, 64},
		{impl.Instr{Op: impl.OpLw, A: 0, B: 0, Imm: 64}, 0, 64},
		{impl.Instr{Op: impl.OpLb, A: 4, B: 1, Imm: 3}, 0xf8, 71},
		{impl.Instr{Op: impl.OpLb, A: 4, B: 0, Imm: 64}, 0xf1, 64},
		{impl.Instr{Op: impl.OpLb, A: 0, B: 0, Imm: 65}, 0, 65},
	}
	for _, l := range loads {
		ws, g := smallCore(l.i)
		want := copyGuest(g)
		want.PC = 12
		if l.i.A != 0 {
			want.Regs[l.i.A] = l.x
		}
		wantStep(t, ws, g, 0, impl.Step{Guest: want, Op: l.i.Op, Touch: l.touch})
	}
	stores := []struct {
		i     impl.Instr
		ram   []byte
		touch int
	}{
		{impl.Instr{Op: impl.OpSw, A: 15, B: 1}, []byte{0xf1, 2, 3, 4, 0xef, 0xcd, 0xab, 0x89}, 68},
		{impl.Instr{Op: impl.OpSw, A: 0, B: 1, Imm: -4}, []byte{0, 0, 0, 0, 5, 6, 7, 0xf8}, 64},
		{impl.Instr{Op: impl.OpSb, A: 15, B: 1, Imm: 3}, []byte{0xf1, 2, 3, 4, 5, 6, 7, 0xef}, 71},
		{impl.Instr{Op: impl.OpSb, A: 3, B: 3, Imm: 66}, []byte{0xf1, 255, 3, 4, 5, 6, 7, 0xf8}, 65},
		{impl.Instr{Op: impl.OpSb, A: 0, B: 0, Imm: 64}, []byte{0, 2, 3, 4, 5, 6, 7, 0xf8}, 64},
	}
	for _, s := range stores {
		ws, g := smallCore(s.i)
		want := copyGuest(g)
		want.PC, want.Ram[1] = 12, s.ram
		wantStep(t, ws, g, 0, impl.Step{Guest: want, Op: s.i.Op, Touch: s.touch, Wrote: true})
	}
}

// A fault leaves the guest as it was, PC with it.
func TestFaultsOfSteps(t *testing.T) {
	rows := []struct {
		i    impl.Instr
		told int
	}{
		{impl.Instr{Op: impl.OpDiv, A: 4, B: 1, C: 0}, impl.FaultDivide},
		{impl.Instr{Op: impl.OpDiv, A: 0, B: 1, C: 0}, impl.FaultDivide},
		{impl.Instr{Op: impl.OpLw, A: 4, B: 1, Imm: 1}, impl.FaultAlign},
		{impl.Instr{Op: impl.OpLw, A: 4, B: 1, Imm: 4}, impl.FaultWindow},
		{impl.Instr{Op: impl.OpLw, A: 0, B: 1, Imm: 4}, impl.FaultWindow},
		{impl.Instr{Op: impl.OpLw, A: 1, B: 1, Imm: 28}, impl.FaultPerm},
		{impl.Instr{Op: impl.OpLw, A: 4, B: 0, Imm: 0}, impl.FaultPerm},
		{impl.Instr{Op: impl.OpLw, A: 4, B: 0, Imm: -4}, impl.FaultWindow},
		{impl.Instr{Op: impl.OpLb, A: 4, B: 1, Imm: 4}, impl.FaultWindow},
		{impl.Instr{Op: impl.OpLb, A: 4, B: 1, Imm: -5}, impl.FaultWindow},
		{impl.Instr{Op: impl.OpLb, A: 4, B: 0, Imm: 97}, impl.FaultPerm},
		{impl.Instr{Op: impl.OpSw, A: 4, B: 1, Imm: -1}, impl.FaultAlign},
		{impl.Instr{Op: impl.OpSw, A: 4, B: 1, Imm: 4}, impl.FaultWindow},
		{impl.Instr{Op: impl.OpSw, A: 4, B: 0, Imm: 80}, impl.FaultPerm},
		{impl.Instr{Op: impl.OpSw, A: 4, B: 0, Imm: 8}, impl.FaultPerm},
		{impl.Instr{Op: impl.OpSb, A: 4, B: 1, Imm: 4}, impl.FaultWindow},
		{impl.Instr{Op: impl.OpSb, A: 4, B: 0, Imm: 83}, impl.FaultPerm},
		{impl.Instr{Op: impl.OpSb, A: 4, B: 3, Imm: 0}, impl.FaultWindow},
	}
	for _, r := range rows {
		ws, g := smallCore(r.i)
		wantStep(t, ws, g, 3, impl.Step{Guest: g, Fault: r.told, Op: r.i.Op, Touch: -1})
	}
}

func TestFaultsOfFetches(t *testing.T) {
	ws, g := smallCore(impl.Instr{Op: impl.OpNop})
	pcs := map[uint32]int{
		9: impl.FaultAlign, 10: impl.FaultAlign, 11: impl.FaultAlign, 17: impl.FaultAlign, math.MaxUint32: impl.FaultAlign, 65: impl.FaultAlign,
		16: impl.FaultWindow, 60: impl.FaultWindow, 2048: impl.FaultWindow, math.MaxUint32 - 3: impl.FaultWindow, 1 << 31: impl.FaultWindow,
		64: impl.FaultPerm, 68: impl.FaultPerm, 80: impl.FaultPerm, 96: impl.FaultPerm,
	}
	for pc, told := range pcs {
		g.PC = pc
		wantStep(t, ws, g, 3, impl.Step{Guest: g, Fault: told, Op: -1, Touch: -1})
	}
}

// A step at the last word of a window leaves PC behind it, and the next one faults there.
func TestStepsAtTheEndOfAWindow(t *testing.T) {
	for _, ws := range [][]impl.Window{{win(2044, 4, 4)}, {win(0, 4, 5)}, {win(512, 8, 7), win(0, 512, 3)}} {
		g := guestOver(ws)
		last := ws[0].Base + ws[0].Size - 4
		layWord(ws, g, last, 0)
		g.PC = uint32(last)
		want := copyGuest(g)
		want.PC += 4
		wantStep(t, ws, g, 0, impl.Step{Guest: want, Op: impl.OpNop, Touch: -1})
		wantStep(t, ws, want, 0, impl.Step{Guest: want, Fault: impl.FaultWindow, Op: -1, Touch: -1})
	}
}

func TestWordsThatDecodeToNothing(t *testing.T) {
	for _, w := range []uint32{1, 1 << 14, 1 << 22, 33 << 26, 63 << 26, math.MaxUint32, 1<<26 | 1, 24<<26 | 1<<18, 30<<26 | 5, 31<<26 | 1<<22, 32<<26 | 1<<22, 23<<26 | 1<<22} {
		ws, g := smallCore(impl.Instr{})
		layWord(ws, g, 8, w)
		wantStep(t, ws, g, 3, impl.Step{Guest: g, Fault: impl.FaultOp, Op: -1, Touch: -1})
	}
}

func TestOpsForTheHypervisor(t *testing.T) {
	chance := rand.New(rand.NewSource(82))
	for _, row := range opRows()[25:] {
		for range 40 {
			i := drawnInstr(chance, row)
			ws, g := smallCore(i)
			wantStep(t, ws, g, chance.Int(), impl.Step{Guest: g, Op: row.op, Touch: -1, Calls: true})
		}
	}
}

func TestDrawnStepsAsByHand(t *testing.T) {
	chance := rand.New(rand.NewSource(83))
	faults := map[int]int{}
	for _, row := range opRows() {
		for range 1500 {
			ws, g := runnable(chance, drawnInstr(chance, row))
			cycle := []int{0, -1, 1 << 32, chance.Int(), -chance.Int()}[chance.Intn(5)]
			want := stepByHand(ws, g, cycle)
			faults[want.Fault]++
			wantStep(t, ws, g, cycle, want)
		}
	}
	for _, told := range []int{0, 1, 2, 3, 5} {
		if faults[told] < 100 {
			t.Errorf("only %d steps with fault %d", faults[told], told)
		}
	}
}

func TestDrawnGuestsStepAsByHand(t *testing.T) {
	chance := rand.New(rand.NewSource(84))
	for _, ws := range someWindowLists() {
		for range 60 {
			g := drawnGuest(chance, ws)
			for range 20 {
				g.PC = nearWord(chance, ws)
				s := impl.CoreStep(ws, g, 6)
				if !sameStep(s, stepByHand(ws, g, 6)) {
					t.Fatalf("CoreStep over %v at %d: %+v", ws, g.PC, s)
				}
				g = s.Guest
			}
		}
	}
}

// Promise 8: a step changes only registers that Writes tells.
func TestStepsChangeOnlyWhatTheyWrite(t *testing.T) {
	chance := rand.New(rand.NewSource(85))
	for _, row := range opRows() {
		for range 300 {
			i := drawnInstr(chance, row)
			ws, g := runnable(chance, i)
			s := impl.CoreStep(ws, g, chance.Int())
			for n := range 16 {
				if s.Guest.Regs[n] != g.Regs[n] && !slices.Contains(impl.Writes(i), n) {
					t.Fatalf("%+v changed register %d", i, n)
				}
			}
			stored := (row.name == "sw" || row.name == "sb") && s.Fault == 0
			if s.Wrote != stored || !stored && !slices.EqualFunc(s.Guest.Ram, g.Ram, bytes.Equal) {
				t.Fatalf("%+v wrote into memory", i)
			}
			if s.Guest.Regs[0] != 0 || !impl.GuestOk(ws, s.Guest) {
				t.Fatalf("%+v made a guest that is not right", i)
			}
			if (s.Fault != 0 || s.Calls) && !sameGuest(s.Guest, g) {
				t.Fatalf("%+v changed its guest in spite of a fault", i)
			}
		}
	}
}

// Promise 8: two guests that differ in a register that the step doesn't read differ in it alone behind the step, if at all.
func TestStepsHangOnlyOnWhatTheyRead(t *testing.T) {
	chance := rand.New(rand.NewSource(86))
	for _, row := range opRows() {
		for range 60 {
			i := drawnInstr(chance, row)
			ws, g := runnable(chance, i)
			cycle := chance.Int()
			s := impl.CoreStep(ws, g, cycle)
			for n := 1; n < 16; n++ {
				if slices.Contains(impl.Reads(i), n) {
					continue
				}
				other := copyGuest(g)
				other.Regs[n] = nearWord(chance, ws)
				want := s
				want.Guest = copyGuest(s.Guest)
				written := slices.Contains(impl.Writes(i), n) && s.Fault == 0 && !s.Calls
				if !written {
					want.Guest.Regs[n] = other.Regs[n]
				}
				wantStep(t, ws, other, cycle, want)
			}
		}
	}
}

// And the cycle is told by rdc alone.
func TestOnlyRdcHangsOnTheCycle(t *testing.T) {
	chance := rand.New(rand.NewSource(87))
	for _, row := range opRows() {
		for range 30 {
			ws, g := runnable(chance, row.right(1+chance.Intn(15), chance.Intn(16), chance.Intn(16), 0))
			a, b := impl.CoreStep(ws, g, 1), impl.CoreStep(ws, g, 2)
			if sameStep(a, b) == (row.name == "rdc") {
				t.Fatalf("%s at two cycles: %+v, %+v", row.name, a, b)
			}
		}
	}
}

// A program that the assembler makes: it sums the numbers from 1 to 5 into memory and calls the hypervisor.
func TestStepsOfAProgram(t *testing.T) {
	text := "addi r1 r0 5\nloop:\nadd r2 r2 r1\naddi r1 r1 -1\nbne r1 r0 loop\nsw r2 r0 64\nlb r3 r0 64\ntrap 1\n"
	words, code, _ := impl.Assemble(text)
	ws := []impl.Window{win(0, 64, 5), win(64, 4, 3)}
	g := impl.GuestNew(ws, 0)
	for n, w := range words {
		layWord(ws, g, 4*n, w)
	}
	steps := 0
	for ; steps < 100; steps++ {
		s := impl.CoreStep(ws, g, steps)
		if s.Fault != 0 {
			t.Fatalf("fault %d at %d", s.Fault, g.PC)
		}
		g = s.Guest
		if s.Calls {
			break
		}
	}
	if code != impl.AsmOk || steps != 18 || g.Regs[2] != 15 || g.Regs[3] != 15 || g.PC != 24 || !bytes.Equal(g.Ram[1], []byte{15, 0, 0, 0}) {
		t.Errorf("%d steps to %v at %d, %v", steps, g.Regs, g.PC, g.Ram[1])
	}
}

// roomyGuest has each list in a longer one; all that it is made of is told beside it.
func roomyGuest(g impl.Guest) (impl.Guest, func() []uint32) {
	regs := slices.Repeat([]uint32{0x5a5a5a5a}, len(g.Regs)+8)
	copy(regs, g.Regs)
	lists := make([][]byte, len(g.Ram)+4)
	wholes := make([][]byte, len(lists))
	for at := range lists {
		wholes[at] = slices.Repeat([]byte{0x77}, 16)
		lists[at] = wholes[at][:8]
		if at < len(g.Ram) {
			wholes[at] = append(slices.Clone(g.Ram[at]), wholes[at]...)
			lists[at] = wholes[at][:len(g.Ram[at])]
		}
	}
	all := func() []uint32 {
		told := slices.Clone(regs)
		for at, list := range lists {
			told = append(told, uint32(len(list)))
			for _, b := range wholes[at] {
				told = append(told, uint32(b))
			}
			for _, b := range list {
				told = append(told, uint32(b))
			}
		}
		return told
	}
	return impl.Guest{Regs: regs[:len(g.Regs)], PC: g.PC, Ram: lists[:len(g.Ram)]}, all
}

// guestsFrom is what every function that answers a guest makes of one.
func guestsFrom(ws []impl.Window, g impl.Guest) []impl.Guest {
	list := []impl.Guest{impl.RegSet(g, 0, 3), impl.RegSet(g, 5, 3), impl.RegSet(g, 15, 3), impl.RegSet(g, 16, 3)}
	addrs := []uint32{1, 2048}
	for _, w := range ws {
		addrs = append(addrs, uint32(w.Base), uint32(w.Base+w.Size-4))
	}
	for _, addr := range addrs {
		for _, size := range []int{0, 1, 4} {
			after, _ := impl.Poke(ws, g, addr, size, 0x31323334)
			list = append(list, after)
		}
	}
	return append(list, impl.CoreStep(ws, g, 4).Guest)
}

// Promise 26: neither a guest nor the room behind its lists is written into.
func TestGuestsStayAsTheyWere(t *testing.T) {
	chance := rand.New(rand.NewSource(88))
	look := func(ws []impl.Window, g impl.Guest) {
		t.Helper()
		given, all := roomyGuest(g)
		windows, whole := roomyWindows(ws)
		before, windowsBefore := all(), slices.Clone(whole)
		impl.GuestOk(windows, given)
		impl.GuestNew(windows, 4)
		impl.Fetch(windows, given)
		for _, addr := range endsOf(ws) {
			impl.Peek(windows, given, addr, 1)
			impl.Peek(windows, given, addr, 4)
		}
		guestsFrom(windows, given)
		if !slices.Equal(all(), before) || !slices.Equal(whole, windowsBefore) {
			t.Errorf("a guest over %v was written into", ws)
		}
	}
	for _, row := range opRows() {
		for range 20 {
			ws, g := runnable(chance, drawnInstr(chance, row))
			look(ws, g)
		}
	}
	for _, ws := range someWindowLists()[:20] {
		for _, g := range wrongGuests(ws) {
			look(ws, g)
		}
	}
	for _, ws := range wrongWindowLists() {
		look(ws, guestOver(ws))
	}
}

// scribbleGuest writes over all that a guest has, its spare room too.
func scribbleGuest(g impl.Guest) {
	for at := range g.Regs[:cap(g.Regs)] {
		g.Regs[:cap(g.Regs)][at] = 0xdeadbeef
	}
	for at, part := range g.Ram {
		for k := range part[:cap(part)] {
			part[:cap(part)][k] = 0xee
		}
		g.Ram[at] = nil
	}
}

// wantListsApart writes over one list of bytes after the other, its spare room too, and asks the others.
func wantListsApart(t *testing.T, g impl.Guest) {
	t.Helper()
	for at, part := range g.Ram {
		before := copyGuest(g)
		for k := range part[:cap(part)] {
			part[:cap(part)][k] ^= 0xff
		}
		for other := range g.Ram {
			if other != at && !bytes.Equal(g.Ram[other], before.Ram[other]) {
				t.Errorf("lists %d and %d share memory", at, other)
			}
		}
	}
}

func TestGuestsAreNewMemory(t *testing.T) {
	chance := rand.New(rand.NewSource(89))
	for _, row := range opRows() {
		for range 6 {
			ws, g := runnable(chance, drawnInstr(chance, row))
			given, all := roomyGuest(g)
			before := all()
			firsts, seconds := guestsFrom(ws, given), guestsFrom(ws, given)
			for at := range firsts {
				want := copyGuest(seconds[at])
				wantListsApart(t, firsts[at])
				scribbleGuest(firsts[at])
				if !slices.Equal(all(), before) || !sameGuest(seconds[at], want) {
					t.Fatalf("answer %d behind %s shares memory", at, row.name)
				}
			}
			kept := make([]impl.Guest, len(seconds))
			for at := range seconds {
				kept[at] = copyGuest(seconds[at])
			}
			scribbleGuest(given)
			for at := range seconds {
				if !sameGuest(seconds[at], kept[at]) {
					t.Fatalf("answer %d behind %s shares memory with what is handed in", at, row.name)
				}
			}
		}
	}
}

func TestNewGuestsAreNewMemory(t *testing.T) {
	for _, ws := range someWindowLists() {
		first, second := impl.GuestNew(ws, 8), impl.GuestNew(ws, 8)
		want := copyGuest(second)
		wantListsApart(t, first)
		scribbleGuest(first)
		if !sameGuest(second, want) || !sameGuest(impl.GuestNew(ws, 8), want) {
			t.Errorf("GuestNew over %v shares memory", ws)
		}
	}
}

// A guest whose lists lie in one memory is answered with lists of their own, of which a write changes one.
func TestGuestsWhoseListsShareMemory(t *testing.T) {
	ws := []impl.Window{win(0, 8, 7), win(8, 8, 7)}
	one := []byte{0, 0, 0, 0, 5, 6, 7, 8}
	g := impl.Guest{Regs: make([]uint32, 16), Ram: [][]byte{one, one}}
	after, told := impl.Poke(ws, g, 4, 4, 0x01020304)
	if told != 0 || !bytes.Equal(after.Ram[0], []byte{0, 0, 0, 0, 4, 3, 2, 1}) || !bytes.Equal(after.Ram[1], one) {
		t.Errorf("Poke into one of two lists: %v, %d", after.Ram, told)
	}
	layWord(ws[:1], g, 0, wordByHand(impl.Instr{Op: impl.OpSb, A: 0, B: 0, Imm: 12}))
	s := impl.CoreStep(ws, g, 0)
	if s.Touch != 12 || !bytes.Equal(s.Guest.Ram[0], one) || s.Guest.Ram[1][4] != 0 || s.Guest.Ram[0][4] != 5 {
		t.Errorf("sb into one of two lists: %+v", s)
	}
	for _, made := range guestsFrom(ws, g) {
		wantListsApart(t, made)
	}
}
