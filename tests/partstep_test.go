package tests

import (
	"bytes"
	"fmt"
	"math"
	"math/rand"
	"slices"
	"strings"
	"testing"

	"loop.example/g00076/impl"
)

// nearByHand takes the uses of a step one behind the other to both tables, and sums what they cost.
func nearByHand(c impl.Costs, s *impl.PartState, uses []impl.Use) int {
	sum := 0
	for _, use := range uses {
		a := impl.Access{}
		s.Tlb, a.Known = tlbUseByHand(s.Tlb, use.Addr)
		s.Cache, a.Cached, a.Back = useByHand(s.Cache, use.Addr, use.Write)
		sum += accessCostByHand(c, a)
	}
	return sum
}

func setByHand(s *impl.PartState, n int, x uint32) {
	if n > 0 {
		s.Guest.Regs[n] = x
	}
}

// endOf is whether Imm is a number of the list whose partition is p.
func endOf(list []int, imm int, p int) bool {
	return imm >= 0 && imm < len(list) && list[imm] == p
}

// callByHand does the third point of a step to s, and tells the fault.
func callByHand(x impl.Tables, p int, s *impl.PartState, i impl.Instr, cycle int) int {
	froms, tos := []int{}, []int{}
	for _, r := range x.Chans {
		froms, tos = append(froms, r.From), append(tos, r.To)
	}
	b, fault := s.Guest.Regs[i.B], 0
	switch opRows()[i.Op].name {
	case "send":
		code := 3
		if endOf(froms, i.Imm, p) {
			code = sendByHand(x.Chans[i.Imm], &s.Outs[i.Imm], b)
		}
		setByHand(s, i.A, uint32(code))
	case "recv":
		code, w := 3, uint32(0)
		if endOf(tos, i.Imm, p) {
			code, w = takeByHand(&s.Ins[i.Imm].Ready, x.Chans[i.Imm].Kind == 1)
		}
		setByHand(s, i.A, uint32(code))
		setByHand(s, i.B, w)
	case "rdev":
		code, w := 3, uint32(0)
		if endOf(x.Devs, i.Imm, p) {
			code, w = takeByHand(&s.Devs[i.Imm].Seen, true)
		}
		setByHand(s, i.A, uint32(code))
		setByHand(s, i.B, w)
	case "csrr":
		w, is := csrReadByHand(s.Virt, i.Imm, cycle)
		if !is {
			return 7
		}
		setByHand(s, i.A, w)
	case "csrw":
		after, is := csrWriteByHand(s.Virt, i.Imm, s.Guest.Regs[i.A])
		if !is {
			return 7
		}
		s.Virt = after
	case "iret":
		if !s.Virt.Inside {
			return 8
		}
		s.Virt.Inside, s.Guest.PC = false, s.Virt.Saved-4
	case "yield":
		s.Idle = true
	case "trap":
		return 6
	}
	s.Guest.PC = mod32(int(s.Guest.PC) + 4)
	return fault
}

func sendByHand(r impl.ChanRow, o *impl.OutEnd, w uint32) int {
	switch {
	case r.Kind == 0:
		o.Sent = []uint32{w}
	case o.Held+len(o.Sent) == r.Depth:
		return 2
	default:
		o.Sent = append(slices.Clone(o.Sent), w)
	}
	return 0
}

func takeByHand(list *[]uint32, takes bool) (int, uint32) {
	if len(*list) == 0 {
		return 1, 0
	}
	w := (*list)[0]
	if takes {
		*list = (*list)[1:]
	}
	return 0, w
}

// partStepByHand goes down the document's five points; the state is right and may step.
func partStepByHand(x impl.Tables, p int, s impl.PartState, cycle int) (impl.PartState, impl.Event) {
	after, e := copyPart(s), impl.Event{At: cycle, PC: s.Guest.PC, Op: -1}
	ws, c := x.Parts[p].Windows, x.Costs
	if e.Cause = dueByHand(s.Virt, cycle); e.Cause != 0 {
		after.Virt, after.Guest.PC = enterByHand(s.Virt, e.Cause, s.Guest.PC)
		e.Cost = c.Base + c.Trap
	} else {
		step, uses := stepByHand(ws, s.Guest, cycle), []impl.Use{}
		if faultByHand(ws, ownersByHand(ws), s.Guest.PC, 4, 4) == 0 {
			uses = append(uses, impl.Use{Addr: int(s.Guest.PC)})
		}
		if step.Touch != -1 {
			uses = append(uses, impl.Use{Addr: step.Touch, Write: step.Wrote})
		}
		e.Op, e.Fault, after.Guest = step.Op, step.Fault, step.Guest
		if e.Cost = c.Base; e.Op != -1 {
			e.Cost = opCostByHand(c, e.Op)
		}
		e.Cost += nearByHand(c, &after, uses)
		if step.Calls {
			i, _ := impl.Decode(valueByHand(ws, s.Guest, s.Guest.PC, 4))
			e.Fault = callByHand(x, p, &after, i, cycle)
		}
		if e.Fault != 0 {
			e.Cost += c.Trap
			health, act := onFaultByHand(x.Parts[p].Policy, s.Health, e.Fault)
			after.Health = health
			if act == 3 {
				after.Guest.PC = mod32(int(after.Guest.PC) + 4)
			}
			if act == 2 {
				after = afreshByHand(x, p, after)
			}
		}
	}
	after.Next = cycle + e.Cost
	e.Sum = impl.FoldWords(after.Guest.Regs)
	return after, e
}

func wantPartStep(t *testing.T, what string, x impl.Tables, p int, s impl.PartState, cycle int) (impl.PartState, impl.Event) {
	t.Helper()
	after, e := partStepByHand(x, p, s, cycle)
	got, event, is := impl.PartStep(x, p, s, cycle)
	if event != e {
		t.Errorf("%s: partition %d at cycle %d: %+v, not %+v", what, p, cycle, event, e)
	}
	wantPart(t, what, got, is, after, true)
	wantKeptRight(t, what, x, p, got, event)
	return got, event
}

// Promise 17, of one step: the partition is right behind it, and its cost is within the limits.
func wantKeptRight(t *testing.T, what string, x impl.Tables, p int, s impl.PartState, e impl.Event) {
	t.Helper()
	if !partOkByHand(x, p, s) || e.Cost < 1 || e.Cost > worstStepByHand(x.Costs) || s.Next != e.At+e.Cost {
		t.Errorf("%s: partition %d behind %+v is %s", what, p, e, partText(s))
	}
}

// running is p at work, all near empty, with these lines at its Entry, and registers whose words tell their number.
func running(t *testing.T, x impl.Tables, p int, lines ...string) impl.PartState {
	t.Helper()
	words, code, line := impl.Assemble(strings.Join(lines, "\n") + "\n")
	if code != impl.AsmOk {
		t.Fatalf("%v: code %d at line %d", lines, code, line)
	}
	s := bootByHand(x, p, imageOver(x.Parts[p].Windows))
	for n, w := range words {
		layWord(x.Parts[p].Windows, s.Guest, x.Parts[p].Entry+4*n, w)
	}
	for n := range uint32(15) {
		s.Guest.Regs[n+1] = 0x500 + n + 1
	}
	s.Idle = false
	return s
}

// wantSteps are the events of one step behind the other, from cycle 200 on, without what the registers fold to.
func wantSteps(t *testing.T, x impl.Tables, p int, s impl.PartState, want ...impl.Event) impl.PartState {
	t.Helper()
	cycle := 200
	for n, e := range want {
		after, event := wantPartStep(t, fmt.Sprint("step ", n), x, p, s, cycle)
		e.At, e.Sum = cycle, impl.FoldWords(after.Guest.Regs)
		if event != e {
			t.Errorf("step %d: %+v, not %+v", n, event, e)
		}
		s, cycle = after, after.Next
	}
	return s
}

func TestPartStepCosts(t *testing.T) {
	x := partTables()
	// The line of the instructions at 8 and 12 is number 1, at home in row 1; that of 128 is number 16, in row 0.
	s := running(t, x, 0, "addi r1 r0 128", "sw r1 r1 0", "lw r2 r1 4", "mul r3 r2 r2", "lw r4 r1 8", "sw r4 r1 24", "nop", "lb r5 r1 0", "nop")
	wantSteps(t, x, 0, s,
		// Miss and Walk of the instruction; then it is near, and the store misses and walks.
		impl.Event{Cost: 1 + 30, PC: 8, Op: impl.OpAddi},
		impl.Event{Cost: 4 + 0 + 30, PC: 12, Op: impl.OpSw},
		// The instruction at 16 is in row 0: the dirty line goes, and comes back for the load.
		impl.Event{Cost: 4 + 50 + 10, PC: 16, Op: impl.OpLw},
		impl.Event{Cost: 3 + 10, PC: 20, Op: impl.OpMul},
		// 136 is in row 1, as 24 is.
		impl.Event{Cost: 4 + 10 + 10, PC: 24, Op: impl.OpLw},
		// 152 is in row 1 as 28 is: both come in, and the second one is dirty.
		impl.Event{Cost: 4 + 10 + 10, PC: 28, Op: impl.OpSw},
		impl.Event{Cost: 1 + 10, PC: 32, Op: impl.OpNop},
		impl.Event{Cost: 4 + 10, PC: 36, Op: impl.OpLb},
		impl.Event{Cost: 1 + 50, PC: 40, Op: impl.OpNop})
}

// The instruction goes ahead of what it touches: with one way and one page in all, what it touches is what stays.
func TestPartStepUsesInOrder(t *testing.T) {
	x := partTables()
	x.Shape, x.Tlb = impl.Shape{Sets: 1, Ways: 1, Line: 4}, 1
	s := running(t, x, 0, "lw r1 r2 0", "sw r1 r2 0", "lw r1 r2 0", "lw r1 r3 0")
	s.Guest.Regs[2], s.Guest.Regs[3] = 128, 16
	s = wantSteps(t, x, 0, s, impl.Event{Cost: 4 + 30 + 30, PC: 8, Op: impl.OpLw}, impl.Event{Cost: 4 + 30 + 30, PC: 12, Op: impl.OpSw})
	if !sameCache(s.Cache, cacheWith(x.Shape, 0, dirty(32))) || !sameTlb(s.Tlb, tlbWith(1, 2)) {
		t.Error(s.Cache, s.Tlb)
	}
	s = wantSteps(t, x, 0, s, impl.Event{Cost: 4 + 70 + 30, PC: 16, Op: impl.OpLw}, impl.Event{Cost: 4 + 30 + 10, PC: 20, Op: impl.OpLw})
	if !sameCache(s.Cache, cacheWith(x.Shape, 0, clean(4))) || !sameTlb(s.Tlb, tlbWith(1, 0)) {
		t.Error(s.Cache, s.Tlb)
	}
}

func TestPartStepThatIsRefused(t *testing.T) {
	x := partTables()
	for p := range 3 {
		right := running(t, x, p, "nop")
		for _, cycle := range []int{0, 1, 129, 500, 49999, 50000} {
			wantPartStep(t, "a right cycle", x, p, right, cycle)
		}
		for _, cycle := range noCycles() {
			wantNoStep(t, "no cycle", x, p, right, cycle)
		}
		idle := changedPart(right, func(s *impl.PartState) { s.Idle = true })
		halted := changedPart(right, func(s *impl.PartState) { s.Health.Halted = true })
		both := changedPart(right, func(s *impl.PartState) { s.Idle, s.Health.Halted = true, true })
		for what, s := range map[string]impl.PartState{"idle": idle, "halted": halted, "both": both} {
			wantNoStep(t, what, x, p, s, 0)
			wantNoStep(t, what, x, p, s, 50000)
			// A cause that is due wakes nobody.
			s.Virt = impl.Virt{On: true, Timer: true, Pend: 1}
			wantNoStep(t, what, x, p, s, 300)
		}
		for _, none := range noParts() {
			wantNoStep(t, "no partition", x, none, right, 0)
		}
	}
}

// Next is not asked: a step may begin ahead of it, at it and behind it, and sets it anew.
func TestPartStepWhateverNextIs(t *testing.T) {
	x := partTables()
	for _, next := range []int{0, 1, 299, 300, 301, 50000, 99999, 100000} {
		s := changedPart(running(t, x, 0, "nop"), func(s *impl.PartState) { s.Next = next })
		after, e := wantPartStep(t, "Next", x, 0, s, 300)
		if after.Next != 331 || e.Cost != 31 {
			t.Error(next, after.Next, e)
		}
	}
}

func TestPartStepTakesAnInterrupt(t *testing.T) {
	x := partTables()
	for _, row := range []struct {
		virt  impl.Virt
		cycle int
		cause int
		after impl.Virt
	}{
		{impl.Virt{On: true, Vector: 40, Timer: true, Compare: 300}, 300, 1, impl.Virt{On: true, Vector: 40, Saved: 8, Cause: 1, Compare: 300, Inside: true}},
		{impl.Virt{On: true, Vector: 41, Timer: true, Compare: 300, Pend: 5}, 301, 1, impl.Virt{On: true, Vector: 41, Saved: 8, Cause: 1, Compare: 300, Inside: true, Pend: 5}},
		{impl.Virt{On: true, Vector: 1 << 31, Timer: true, Compare: 301, Pend: 5}, 300, 2, impl.Virt{On: true, Vector: 1 << 31, Saved: 8, Cause: 2, Compare: 301, Timer: true, Inside: true, Pend: 4}},
		{impl.Virt{On: true, Pend: 1 << 31}, 0, 33, impl.Virt{On: true, Saved: 8, Cause: 33, Inside: true}},
	} {
		s := running(t, x, 0, "trap 1")
		s.Virt = row.virt
		after, e := wantPartStep(t, "an interrupt", x, 0, s, row.cycle)
		if e != (impl.Event{At: row.cycle, Cost: 6, PC: 8, Op: -1, Cause: row.cause, Sum: impl.FoldWords(s.Guest.Regs)}) {
			t.Errorf("%+v", e)
		}
		want := changedPart(s, func(s *impl.PartState) {
			s.Virt, s.Guest.PC, s.Next = row.after, row.virt.Vector, row.cycle+6
		})
		wantPart(t, "behind an interrupt", after, true, want, true)
	}
}

// An interrupt comes ahead of the instruction, so also of one whose Fetch faults or that is none.
func TestPartStepOfEachVirt(t *testing.T) {
	x := partTables()
	for _, v := range someVirts() {
		for _, cycle := range []int{0, 9, 10, 11, 50000} {
			for _, line := range []string{"nop", "iret", "yield", "trap 0", "csrr r1 6", "csrw r1 0", ".word 4294967295"} {
				s := running(t, x, 1, line)
				s.Virt = v
				wantPartStep(t, line, x, 1, s, cycle)
			}
			s := running(t, x, 1, "nop")
			s.Virt, s.Guest.PC = v, 3
			wantPartStep(t, "a PC at which nothing stands", x, 1, s, cycle)
		}
	}
}

// Nothing goes to the tables of what is near where an interrupt is taken or Fetch faults.
func TestPartStepWithoutAnAccess(t *testing.T) {
	x := partTables()
	for _, pc := range []uint32{9, 10, 11, 100, 128, 192, 2048, 1 << 31, math.MaxUint32, math.MaxUint32 - 3} {
		s := running(t, x, 0, "nop")
		s.Guest.PC, s.Cache, s.Tlb = pc, fullCache(x.Shape, true), fullTlb(2)
		after, e := wantPartStep(t, "Fetch faults", x, 0, s, 300)
		if e.Cost != 6 || e.Op != -1 || e.Fault == 0 || !sameCache(after.Cache, s.Cache) || !sameTlb(after.Tlb, s.Tlb) {
			t.Errorf("PC %d: %+v", pc, e)
		}
	}
}

// What decodes to nothing was read, so it is near from then on, and costs Base, its access and Trap.
func TestPartStepOfNoInstruction(t *testing.T) {
	x := partTables()
	after, e := wantPartStep(t, "no instruction", x, 0, running(t, x, 0, ".word 4294967295"), 300)
	if e != (impl.Event{At: 300, Cost: 1 + 30 + 5, PC: 8, Op: -1, Fault: impl.FaultOp, Sum: e.Sum}) || !impl.CacheHolds(after.Cache, 8) || !impl.TlbHolds(after.Tlb, 8) {
		t.Errorf("%+v", e)
	}
}

func TestPartStepOfEachOp(t *testing.T) {
	chance := rand.New(rand.NewSource(175))
	ops := map[int]int{}
	for _, row := range opRows() {
		for range 60 {
			x := drawnTables(chance)
			p := chance.Intn(len(x.Parts))
			s := drawnPart(chance, x, p)
			s.Virt.On = false
			s.Guest.PC = placeToRun(chance, x.Parts[p].Windows)
			layWord(x.Parts[p].Windows, s.Guest, int(s.Guest.PC), wordByHand(drawnInstr(chance, row)))
			_, e := wantPartStep(t, row.name, x, p, s, chance.Intn(50001))
			ops[e.Op]++
		}
	}
	for op := range opRows() {
		if ops[op] < 60 {
			t.Error("too few of one op:", op, ops[op])
		}
	}
}

// faulting are states of p that fault at their next step, one for each way to a fault, told by its name.
func faulting(t *testing.T, x impl.Tables, p int) map[string]impl.PartState {
	t.Helper()
	list := map[string]impl.PartState{}
	for _, line := range []string{"lw r1 r0 2", "lw r1 r0 2000", "sw r1 r0 1", "sw r1 r0 2000", "lb r1 r0 2000", "sb r1 r0 -1", "div r1 r2 r0", "trap 0", "trap -1", "iret", ".word 4294967295", ".word 1",
		"csrr r1 8", "csrr r0 -1", "csrr r1 8191", "csrw r1 3", "csrw r1 6", "csrw r1 7", "csrw r0 8", "csrw r1 -8192"} {
		list[line] = running(t, x, p, line)
	}
	for _, pc := range []uint32{1, 2000, 2048, math.MaxUint32 - 3} {
		list[fmt.Sprint("PC ", pc)] = changedPart(running(t, x, p, "nop"), func(s *impl.PartState) { s.Guest.PC = pc })
	}
	return list
}

// Each fault that a right partition can come to, beside its op.
func TestPartStepFaultsByNumber(t *testing.T) {
	x := partTables()
	want := map[string][2]int{
		"lw r1 r0 2": {impl.FaultAlign, 15}, "lw r1 r0 2000": {impl.FaultWindow, 15}, "sw r1 r0 1": {impl.FaultAlign, 16}, "sw r1 r0 2000": {impl.FaultWindow, 16},
		"lb r1 r0 2000": {impl.FaultWindow, 17}, "sb r1 r0 -1": {impl.FaultWindow, 18}, "div r1 r2 r0": {impl.FaultDivide, 10}, "trap 0": {impl.FaultTrap, 32}, "trap -1": {impl.FaultTrap, 32},
		"iret": {impl.FaultIret, 30}, ".word 4294967295": {impl.FaultOp, -1}, ".word 1": {impl.FaultOp, -1},
		"csrr r1 8": {impl.FaultCsr, 28}, "csrr r0 -1": {impl.FaultCsr, 28}, "csrr r1 8191": {impl.FaultCsr, 28},
		"csrw r1 3": {impl.FaultCsr, 29}, "csrw r1 6": {impl.FaultCsr, 29}, "csrw r1 7": {impl.FaultCsr, 29}, "csrw r0 8": {impl.FaultCsr, 29}, "csrw r1 -8192": {impl.FaultCsr, 29},
		"PC 1": {impl.FaultAlign, -1}, "PC 2000": {impl.FaultWindow, -1}, "PC 2048": {impl.FaultWindow, -1}, "PC 4294967292": {impl.FaultWindow, -1},
	}
	for p := range 3 {
		states := faulting(t, x, p)
		for what, s := range states {
			_, e := wantPartStep(t, what, x, p, s, 300)
			if got := [2]int{e.Fault, e.Op}; got != want[what] {
				t.Errorf("%s: %v, not %v", what, got, want[what])
			}
		}
		if len(states) != len(want) {
			t.Error("states and what is wanted of them are not as many")
		}
	}
	// Where a window lacks the kind: a store into what is only read, a load from what is only written, a PC in what is not run.
	for what, row := range map[string]struct {
		p    int
		line string
		base uint32
		pc   uint32
	}{"store": {0, "sw r1 r2 0", 192, 8}, "store of a byte": {0, "sb r1 r2 3", 0, 8}, "load": {2, "lw r1 r2 0", 640, 772}, "load of a byte": {2, "lb r1 r2 1", 768, 772}, "PC": {0, "nop", 0, 128}} {
		s := running(t, x, row.p, row.line)
		s.Guest.Regs[2], s.Guest.PC = row.base, row.pc
		if _, e := wantPartStep(t, what, x, row.p, s, 300); e.Fault != impl.FaultPerm {
			t.Errorf("%s: %+v", what, e)
		}
	}
}

// policyRows have every policy with restarts left, with none left, and beyond what is left.
func policyRows() []struct {
	policy   impl.Policy
	restarts int
	act      int
} {
	type row = struct {
		policy   impl.Policy
		restarts int
		act      int
	}
	list := []row{}
	for _, restarts := range []int{0, 1, 1000000000} {
		list = append(list, row{impl.Policy{Kind: impl.PolicyHalt}, restarts, impl.ActHalt}, row{impl.Policy{Kind: impl.PolicySkip}, restarts, impl.ActSkip})
	}
	for _, most := range []int{0, 1, 2, 100} {
		for _, restarts := range []int{0, most - 1, most, most + 1, 1000000000} {
			act := map[bool]int{true: impl.ActRestart, false: impl.ActHalt}[restarts < most]
			if restarts >= 0 {
				list = append(list, row{impl.Policy{Kind: impl.PolicyRestart, Most: most}, restarts, act})
			}
		}
	}
	return list
}

// What a fault does under each policy, said of each part of the state by itself.
func TestPartStepFaultsUnderEachPolicy(t *testing.T) {
	for _, row := range policyRows() {
		for p := range 3 {
			x := withPolicy(partTables(), p, row.policy)
			for what, s := range faulting(t, x, p) {
				full := fullPart(x, p)
				s.Outs, s.Ins, s.Devs, s.Boot = full.Outs, full.Ins, full.Devs, full.Boot
				s.Virt = impl.Virt{Vector: 4, Saved: 5, Cause: 6, Compare: 7, Timer: true, Pend: 8}
				s.Health = impl.Health{Faults: 9, Restarts: row.restarts, Last: 2}
				after, e := wantPartStep(t, what, x, p, s, 300)
				want := changedPart(s, func(s *impl.PartState) {
					s.Cache, s.Tlb, s.Next = after.Cache, after.Tlb, 300+e.Cost
					s.Health.Faults, s.Health.Last = 10, e.Fault
				})
				switch row.act {
				case impl.ActSkip:
					want.Guest.PC += 4
				case impl.ActHalt:
					want.Health.Halted = true
				case impl.ActRestart:
					want.Health.Restarts++
					want.Guest = impl.Guest{Regs: make([]uint32, 16), PC: uint32(x.Parts[p].Entry), Ram: full.Boot}
					want.Virt = impl.Virt{}
					for n := range want.Outs {
						want.Outs[n].Sent = nil
					}
				}
				wantPart(t, what, after, true, want, true)
				if e.PC != s.Guest.PC || e.Sum != impl.FoldWords(want.Guest.Regs) || e.Cause != 0 {
					t.Errorf("%s: %+v", what, e)
				}
			}
		}
	}
}

// A restart leaves what is near, also what the step itself brought, and all that came from outside.
func TestPartStepLeavesWhatIsNearAtARestart(t *testing.T) {
	x := withPolicy(partTables(), 1, impl.Policy{Kind: impl.PolicyRestart, Most: 1})
	s := running(t, x, 1, "sw r1 r2 0", "trap 9")
	s.Guest.Regs[2] = 568
	s = wantSteps(t, x, 1, s, impl.Event{Cost: 4 + 30 + 10, PC: 512, Op: impl.OpSw}, impl.Event{Cost: 6 + 0 + 5, PC: 516, Op: impl.OpTrap, Fault: impl.FaultTrap})
	if s.Guest.PC != 512 || s.Guest.Regs[2] != 0 || s.Idle || !bytes.Equal(s.Guest.Ram[0], s.Boot[0]) {
		t.Error(partText(s))
	}
	if !sameCache(s.Cache, impl.Cache{Shape: x.Shape, Rows: [][]impl.Way{{clean(32)}, {dirty(35)}}}) || !sameTlb(s.Tlb, tlbWith(2, 8)) {
		t.Error(s.Cache, s.Tlb)
	}
}

// Faults are counted one by one, up to where the count stays.
func TestPartStepCountsFaults(t *testing.T) {
	x := withPolicy(partTables(), 0, impl.Policy{Kind: impl.PolicySkip})
	s := running(t, x, 0, slices.Repeat([]string{"trap 1"}, 12)...)
	s.Health.Faults = 999999992
	cycle := 0
	for n := range 12 {
		s, _ = wantPartStep(t, "a fault", x, 0, s, cycle)
		wantNumber(t, "faults", s.Health.Faults, min(999999993+n, 1000000000))
		wantNumber(t, "PC", int(s.Guest.PC), 12+4*n)
		cycle = s.Next
	}
}

// A skip and a call at the last word of memory lead to 0 behind it.
func TestPartStepWrapsPC(t *testing.T) {
	x := withPolicy(partTables(), 0, impl.Policy{Kind: impl.PolicySkip})
	s := changedPart(running(t, x, 0, "nop"), func(s *impl.PartState) { s.Guest.PC = math.MaxUint32 - 3 })
	after, _ := wantPartStep(t, "wraps", x, 0, s, 300)
	wantNumber(t, "PC", int(after.Guest.PC), 0)
	s.Guest.PC = math.MaxUint32
	after, _ = wantPartStep(t, "wraps", x, 0, s, 300)
	wantNumber(t, "PC", int(after.Guest.PC), 3)
}

func wantRegs(t *testing.T, what string, s impl.PartState, after impl.PartState, want map[int]uint32) {
	t.Helper()
	for n := range 16 {
		x, is := want[n]
		if !is {
			x = s.Guest.Regs[n]
		}
		if after.Guest.Regs[n] != x {
			t.Errorf("%s: register %d is %x, not %x", what, n, after.Guest.Regs[n], x)
		}
	}
}

// called is what one call of partition 0 leaves, with ends and devices as told.
func called(t *testing.T, line string, change func(s *impl.PartState), want map[int]uint32) impl.PartState {
	t.Helper()
	x := partTables()
	s := changedPart(running(t, x, 0, line), change)
	after, e := wantPartStep(t, line, x, 0, s, 300)
	wantRegs(t, line, s, after, want)
	if e.Cost != 36 || e.Fault != 0 || after.Guest.PC != 12 || after.Health != s.Health {
		t.Errorf("%s: %+v, PC %d", line, e, after.Guest.PC)
	}
	return after
}

func nothing(*impl.PartState) {}

func TestSendByNumbers(t *testing.T) {
	after := called(t, "send r1 r2 0", nothing, map[int]uint32{1: 0})
	if !sameOut(after.Outs[0], impl.OutEnd{Sent: []uint32{0x502}}) {
		t.Error(after.Outs)
	}
	after = called(t, "send r1 r2 0", func(s *impl.PartState) { s.Outs[0] = outOf(1, 0) }, map[int]uint32{1: 0})
	if !sameOut(after.Outs[0], impl.OutEnd{Held: 1, Sent: []uint32{0x502}}) {
		t.Error(after.Outs)
	}
	for _, full := range []impl.OutEnd{outOf(2, 0), outOf(1, 1), outOf(0, 2)} {
		after = called(t, "send r1 r2 0", func(s *impl.PartState) { s.Outs[0] = full }, map[int]uint32{1: 2})
		if !sameOut(after.Outs[0], full) {
			t.Error(after.Outs)
		}
	}
	for _, end := range []impl.OutEnd{outOf(0, 0), outOf(0, 1)} {
		after = called(t, "send r1 r2 1", func(s *impl.PartState) { s.Outs[1] = end }, map[int]uint32{1: 0})
		if !sameOut(after.Outs[1], impl.OutEnd{Sent: []uint32{0x502}}) {
			t.Error(after.Outs)
		}
	}
	// Register 0 keeps 0, and what stands in a register is sent ahead of what is written into it.
	after = called(t, "send r0 r2 0", nothing, nil)
	if !sameOut(after.Outs[0], impl.OutEnd{Sent: []uint32{0x502}}) {
		t.Error(after.Outs)
	}
	after = called(t, "send r1 r0 0", nothing, map[int]uint32{1: 0})
	if !sameOut(after.Outs[0], impl.OutEnd{Sent: []uint32{0}}) {
		t.Error(after.Outs)
	}
	after = called(t, "send r2 r2 6", nothing, map[int]uint32{2: 0})
	if !sameOut(after.Outs[6], impl.OutEnd{Sent: []uint32{0x502}}) {
		t.Error(after.Outs)
	}
}

// Of channels that it only reads, that others have, and that nobody has, nothing changes.
func TestSendOnNoneOfItsOwn(t *testing.T) {
	for _, imm := range []int{2, 3, 4, 5, 7, 8, -1, -2, 8191, -8192} {
		line := "send r1 r2 " + impl.DecText(imm)
		after := called(t, line, nothing, map[int]uint32{1: 3})
		if !slices.EqualFunc(after.Outs, make([]impl.OutEnd, 7), sameOut) {
			t.Error(line, after.Outs)
		}
	}
}

func TestRecvByNumbers(t *testing.T) {
	two := func(s *impl.PartState) {
		s.Ins[2], s.Ins[3] = inOf(2), impl.InEnd{Ready: []uint32{77}}
	}
	after := called(t, "recv r1 r2 2", two, map[int]uint32{1: 0, 2: 200})
	if !sameIn(after.Ins[2], impl.InEnd{Ready: []uint32{201}}) {
		t.Error(after.Ins)
	}
	after = called(t, "recv r1 r2 3", two, map[int]uint32{1: 0, 2: 77})
	if !sameIn(after.Ins[3], impl.InEnd{Ready: []uint32{77}}) {
		t.Error(after.Ins)
	}
	called(t, "recv r1 r2 2", nothing, map[int]uint32{1: 1, 2: 0})
	called(t, "recv r1 r2 3", nothing, map[int]uint32{1: 1, 2: 0})
	// The word comes behind the code, so it is what stays where both are one register.
	called(t, "recv r4 r4 2", two, map[int]uint32{4: 200})
	called(t, "recv r4 r4 2", nothing, map[int]uint32{4: 0})
	called(t, "recv r0 r2 2", two, map[int]uint32{2: 200})
	called(t, "recv r1 r0 2", two, map[int]uint32{1: 0})
	after = called(t, "recv r0 r0 2", two, nil)
	if !sameIn(after.Ins[2], impl.InEnd{Ready: []uint32{201}}) {
		t.Error("what nobody keeps is taken too", after.Ins)
	}
}

func TestRecvFromNoneOfItsOwn(t *testing.T) {
	two := func(s *impl.PartState) {
		s.Ins[2], s.Ins[3] = inOf(2), impl.InEnd{Ready: []uint32{77}}
	}
	for _, imm := range []int{0, 1, 4, 5, 6, 7, 8, -1, -5, 8191, -8192} {
		line := "recv r1 r2 " + impl.DecText(imm)
		after := called(t, line, two, map[int]uint32{1: 3, 2: 0})
		if !sameIn(after.Ins[2], inOf(2)) || !sameIn(after.Ins[3], impl.InEnd{Ready: []uint32{77}}) {
			t.Error(line, after.Ins)
		}
		called(t, "recv r4 r4 "+impl.DecText(imm), two, map[int]uint32{4: 0})
	}
}

func TestRdevByNumbers(t *testing.T) {
	some := func(s *impl.PartState) {
		s.Devs[0], s.Devs[2], s.Devs[4] = devOf(3, 0), devOf(1, 2), devOf(0, 8)
	}
	after := called(t, "rdev r1 r2 2", some, map[int]uint32{1: 0, 2: 200})
	if !sameDev(after.Devs[2], impl.DevState{Latch: []uint32{100}, Seen: []uint32{201}}) {
		t.Error(after.Devs)
	}
	after = called(t, "rdev r1 r2 0", some, map[int]uint32{1: 1, 2: 0})
	if !sameDev(after.Devs[0], devOf(3, 0)) {
		t.Error("what came is not seen ahead of the next slot", after.Devs)
	}
	after = called(t, "rdev r0 r0 4", some, nil)
	if !sameDev(after.Devs[4], impl.DevState{Seen: numbered(201, 7)}) {
		t.Error(after.Devs)
	}
	called(t, "rdev r4 r4 4", some, map[int]uint32{4: 200})
	called(t, "rdev r4 r4 0", some, map[int]uint32{4: 0})
	called(t, "rdev r0 r2 4", some, map[int]uint32{2: 200})
	called(t, "rdev r1 r0 4", some, map[int]uint32{1: 0})
	for _, imm := range []int{1, 3, 5, 6, 7, 8, -1, -5, 8191, -8192} {
		line := "rdev r1 r2 " + impl.DecText(imm)
		after := called(t, line, some, map[int]uint32{1: 3, 2: 0})
		if !sameDev(after.Devs[0], devOf(3, 0)) || !sameDev(after.Devs[2], devOf(1, 2)) || !sameDev(after.Devs[4], devOf(0, 8)) {
			t.Error(line, after.Devs)
		}
		called(t, "rdev r4 r4 "+impl.DecText(imm), some, map[int]uint32{4: 0})
	}
}

func TestCsrCallsByNumbers(t *testing.T) {
	virt := impl.Virt{Vector: 11, Saved: 22, Cause: 33, Compare: 44, Timer: true, Pend: 66}
	set := func(s *impl.PartState) { s.Virt = virt }
	for n, x := range []uint32{0, 11, 22, 33, 44, 1, 66, 300} {
		after := called(t, fmt.Sprint("csrr r1 ", n), set, map[int]uint32{1: x})
		if after.Virt != virt {
			t.Error(after.Virt)
		}
		called(t, fmt.Sprint("csrr r0 ", n), set, nil)
	}
	for n, want := range map[int]impl.Virt{
		0: {On: true, Vector: 11, Saved: 22, Cause: 33, Compare: 44, Timer: true, Pend: 66}, 1: {Vector: 0x501, Saved: 22, Cause: 33, Compare: 44, Timer: true, Pend: 66},
		2: {Vector: 11, Saved: 0x501, Cause: 33, Compare: 44, Timer: true, Pend: 66}, 4: {Vector: 11, Saved: 22, Cause: 33, Compare: 0x501, Timer: true, Pend: 66},
		5: {Vector: 11, Saved: 22, Cause: 33, Compare: 44, Timer: true, Pend: 66},
	} {
		after := called(t, fmt.Sprint("csrw r1 ", n), set, nil)
		if after.Virt != want {
			t.Error(n, after.Virt)
		}
	}
	after := called(t, "csrw r0 5", set, nil)
	if after.Virt.Timer || after.Virt.On {
		t.Error(after.Virt)
	}
	if after = called(t, "csrw r2 5", set, nil); after.Virt.Timer {
		t.Error(after.Virt)
	}
}

// iret leads back to where the guest was and no further; yield ends the slot's steps.
func TestIretAndYieldByNumbers(t *testing.T) {
	x := partTables()
	for _, saved := range []uint32{0, 8, 24, 1, 1 << 31, math.MaxUint32} {
		s := changedPart(running(t, x, 0, "iret"), func(s *impl.PartState) {
			s.Virt = impl.Virt{On: true, Inside: true, Saved: saved, Cause: 9, Pend: 4}
		})
		after, e := wantPartStep(t, "iret", x, 0, s, 300)
		if e.Fault != 0 || e.Cost != 36 || after.Guest.PC != saved || after.Virt != (impl.Virt{On: true, Saved: saved, Cause: 9, Pend: 4}) || after.Idle {
			t.Errorf("iret to %d: %+v %+v", saved, e, after.Virt)
		}
	}
	after := called(t, "yield", nothing, nil)
	if !after.Idle {
		t.Error("yield leaves it at work")
	}
	wantNoStep(t, "behind yield", x, 0, after, 400)
	again, is := impl.PartSlot(x, 0, after, 1400)
	if !is || again.Idle || again.Guest.PC != 12 {
		t.Error("a slot behind yield", partText(again))
	}
}

// Each call with each Imm, each two registers, and ends that are full, empty and between.
func TestEachCallWithEachImm(t *testing.T) {
	x := partTables()
	for p := range 3 {
		empty := running(t, x, p, "nop")
		full := fullPart(x, p)
		full.Virt = impl.Virt{Vector: 3, Saved: 4, Cause: 5, Compare: 6, Inside: true, Pend: 7}
		full.Guest = empty.Guest
		for _, row := range opRows()[25:] {
			for _, imm := range []int{-8192, -2, -1, 0, 1, 2, 3, 4, 5, 6, 7, 8, 9, 31, 8191} {
				for _, regs := range [][2]int{{1, 2}, {2, 1}, {0, 1}, {1, 0}, {0, 0}, {3, 3}, {15, 15}, {15, 1}} {
					i := row.right(regs[0], regs[1], 0, imm)
					for _, s := range []impl.PartState{empty, full} {
						s = copyPart(s)
						layWord(x.Parts[p].Windows, s.Guest, int(s.Guest.PC), wordByHand(i))
						wantPartStep(t, impl.ShowInstr(i), x, p, s, 300)
					}
				}
			}
		}
	}
}

// run steps a partition as often as it may, up to so many times, and asks the model at each.
func run(t *testing.T, chance *rand.Rand, x impl.Tables, p int, s impl.PartState, most int) (impl.PartState, int) {
	t.Helper()
	cycle, steps := chance.Intn(1000), 0
	for steps < most && !s.Idle && !s.Health.Halted && cycle <= 50000 {
		s, _ = wantPartStep(t, "a step of a run", x, p, s, cycle)
		cycle = s.Next + chance.Intn(3)
		steps++
	}
	return s, steps
}

// Promise 17: a step of a right partition keeps it right and costs at most WorstStep, whatever the tables, the guest and its policy.
func TestStepsKeepAPartitionRight(t *testing.T) {
	chance := rand.New(rand.NewSource(176))
	steps := 0
	for range 250 {
		x := drawnTables(chance)
		p := chance.Intn(len(x.Parts))
		if chance.Intn(2) == 0 {
			x = withPolicy(x, p, impl.Policy{Kind: impl.PolicySkip})
		}
		s := drawnPart(chance, x, p)
		for range 4 {
			did := 0
			s, did = run(t, chance, x, p, s, 30)
			steps += did
			if t.Failed() {
				return
			}
			s, _ = impl.PartSlot(x, p, s, chance.Intn(50001))
		}
	}
	if steps < 3000 {
		t.Error("too few steps:", steps)
	}
}

// The dearest load takes no trap, and its instruction leaves no dirty line to write back: it is below WorstStep by just these.
func TestTheDearestLoad(t *testing.T) {
	x := partTables()
	x.Costs = impl.Costs{Base: 1, Mem: 9, Miss: 10, Walk: 20, Trap: 5, Line: 30}
	x.Shape, x.Tlb = impl.Shape{Sets: 1, Ways: 1, Line: 4}, 1
	s := changedPart(running(t, x, 0, "lw r1 r2 0"), func(s *impl.PartState) {
		s.Guest.Regs[2] = 128
		s.Cache = cacheWith(x.Shape, 0, dirty(40))
	})
	_, e := wantPartStep(t, "a load", x, 0, s, 300)
	wantNumber(t, "a load", e.Cost, impl.WorstStep(x.Costs)-x.Costs.Trap-x.Costs.Line)
	s = changedPart(s, func(s *impl.PartState) { s.Guest.Regs[2] = 1 })
	_, e = wantPartStep(t, "a fault", x, 0, s, 300)
	wantNumber(t, "a fault", e.Cost, 1+9+60+5)
}

// Promise 17: of ends and devices that are not its own a step touches nothing, whatever number it calls with.
func TestStepsTouchTheirOwnAlone(t *testing.T) {
	chance := rand.New(rand.NewSource(177))
	for range 300 {
		x := drawnTables(chance)
		p := chance.Intn(len(x.Parts))
		s := drawnPart(chance, x, p)
		for range 12 {
			row := opRows()[25+chance.Intn(3)]
			s.Virt.On, s.Guest.PC = false, placeToRun(chance, x.Parts[p].Windows)
			layWord(x.Parts[p].Windows, s.Guest, int(s.Guest.PC), wordByHand(row.right(1, 2, 0, chance.Intn(10)-1)))
			after, _, _ := impl.PartStep(x, p, s, 300)
			for n, r := range x.Chans {
				if r.From != p && !sameOut(after.Outs[n], impl.OutEnd{}) || r.To != p && !sameIn(after.Ins[n], impl.InEnd{}) {
					t.Fatalf("%s of %d: channel %d is %+v, %+v", row.name, p, n, after.Outs[n], after.Ins[n])
				}
			}
			for n, owner := range x.Devs {
				if owner != p && !sameDev(after.Devs[n], impl.DevState{}) {
					t.Fatalf("%s of %d: device %d is %+v", row.name, p, n, after.Devs[n])
				}
			}
			s = after
		}
	}
}

// Promise 17: behind the start of a slot nothing that was near matters: two that differ in that alone do the same from there on.
func TestASlotForgetsWhatWasNear(t *testing.T) {
	chance := rand.New(rand.NewSource(178))
	steps := 0
	for range 200 {
		x := drawnTables(chance)
		p := chance.Intn(len(x.Parts))
		a := drawnPart(chance, x, p)
		b := changedPart(a, func(s *impl.PartState) {
			s.Cache, s.Tlb = fullCache(x.Shape, chance.Intn(2) == 0), drawnTlb(chance, x.Tlb)
			s.Next, s.Idle = chance.Intn(100001), !s.Idle
		})
		cycle := chance.Intn(40000)
		a, _ = impl.PartSlot(x, p, a, cycle)
		b, _ = impl.PartSlot(x, p, b, cycle)
		wantPart(t, "behind the start of a slot", a, true, b, true)
		for cycle = a.Next; !a.Idle && !a.Health.Halted && steps < 40000; cycle = a.Next {
			var first, second impl.Event
			a, first, _ = impl.PartStep(x, p, a, cycle)
			b, second, _ = impl.PartStep(x, p, b, cycle)
			if first != second || !samePart(a, b) {
				t.Fatalf("%+v, but %+v", first, second)
			}
			if steps++; steps%20 == 0 {
				break
			}
		}
	}
	if steps < 500 {
		t.Error("too few steps:", steps)
	}
}

// Promise 17: a word that comes is not read ahead of the owner's next slot; behind its start it is there, and its device waits.
func TestWordsAreThereBehindTheNextSlot(t *testing.T) {
	x := partTables()
	for p := range 3 {
		for dev, owner := range x.Devs {
			if owner != p {
				continue
			}
			line := "rdev r1 r2 " + impl.DecText(dev)
			s := running(t, x, p, line, line, line, line)
			s, taken := impl.PartInput(x, p, s, dev, 9000)
			s, _, _ = impl.PartStep(x, p, s, 300)
			if !taken || s.Guest.Regs[1] != impl.DevEmpty || s.Guest.Regs[2] != 0 || s.Virt.Pend != 0 {
				t.Error("read ahead of the next slot", partText(s))
			}
			s, _ = impl.PartSlot(x, p, s, 1400)
			if s.Virt.Pend != 1<<dev || !sameDev(s.Devs[dev], impl.DevState{Seen: []uint32{9000}}) {
				t.Error("not there behind the start of the slot", partText(s))
			}
			// What comes in the midst of that slot waits for the next one.
			s, _ = impl.PartInput(x, p, s, dev, 9001)
			s, _, _ = impl.PartStep(x, p, s, 1600)
			wantNumber(t, "the word", int(s.Guest.Regs[2]), 9000)
			s, _, _ = impl.PartStep(x, p, s, 1700)
			if s.Guest.Regs[1] != impl.DevEmpty || s.Guest.Regs[2] != 0 {
				t.Error("the second word came ahead of its slot", partText(s))
			}
			s, _ = impl.PartSlot(x, p, s, 2000)
			s, _, _ = impl.PartStep(x, p, s, 2200)
			if s.Guest.Regs[1] != impl.DevDone || s.Guest.Regs[2] != 9001 {
				t.Error("the second word", partText(s))
			}
		}
	}
}

// Words that come, slots that start and reads, in any order, against a device that is played alone.
func TestWordsOfADeviceInAnyOrder(t *testing.T) {
	chance := rand.New(rand.NewSource(179))
	x := partTables()
	for range 40 {
		s, ops, got := running(t, x, 0, "rdev r1 r2 4"), []impl.DevOp{}, []impl.DevSaid{}
		for n := range 60 {
			said, is := impl.DevSaid{}, false
			kind := chance.Intn(3)
			ops = append(ops, impl.DevOp{Kind: kind, Word: uint32(n)})
			switch kind {
			case impl.DevIn:
				s, said.Flag = impl.PartInput(x, 0, s, 4, uint32(n))
			case impl.DevSlot:
				before := s.Virt.Pend
				s.Virt.Pend = 0
				s, is = impl.PartSlot(x, 0, s, n)
				said.Flag = s.Virt.Pend == 1<<4
				if s.Virt.Pend &^= 1 << 4; !is || s.Virt.Pend != 0 || before != 0 {
					t.Fatal("a slot that is refused, or another device that waits")
				}
			case impl.DevGet:
				s, _, _ = impl.PartStep(x, 0, s, n)
				said.Code, said.Word = int(s.Guest.Regs[1]), s.Guest.Regs[2]
				s.Guest.PC = 8
			}
			got = append(got, said)
		}
		if want := impl.DevPlay(ops); !slices.Equal(got, want) {
			t.Fatalf("%v\n%v\nnot\n%v", ops, got, want)
		}
	}
}

// A timer and a device, from the registers that the guest sets to the way back.
func TestAGuestHandlesItsInterrupts(t *testing.T) {
	x := partTables()
	s := running(t, x, 0, "addi r1 r0 40", "csrw r1 1", "addi r2 r0 1", "csrw r2 0", "nop", "yield", "nop", "nop", "rdev r3 r4 2", "csrr r5 3", "iret")
	s, _ = impl.PartInput(x, 0, s, 2, 4321)
	s, _ = impl.PartSlot(x, 0, s, 0)
	cycle := s.Next
	ops := []int{}
	for n := 0; n < 20 && !s.Idle; n++ {
		var e impl.Event
		s, e = wantPartStep(t, "handling", x, 0, s, cycle)
		ops, cycle = append(ops, e.Op), s.Next
	}
	want := []int{impl.OpAddi, impl.OpCsrw, impl.OpAddi, impl.OpCsrw, -1, impl.OpRdev, impl.OpCsrr, impl.OpIret, impl.OpNop, impl.OpYield}
	if !slices.Equal(ops, want) || s.Guest.Regs[4] != 4321 || s.Guest.Regs[5] != 4 || s.Virt.Pend != 0 || s.Virt.Inside {
		t.Error(ops, partText(s))
	}
}

// listLook is one list of a state: all that it has up to its capacity as a text, and how it is written over, with another thing for each number.
type listLook struct {
	told     func() string
	scribble func(n int)
}

func lookAt[T any](list []T, filler func(n int) T, show func(T) int) listLook {
	whole := list[:cap(list)]
	told := func() string {
		numbers := make([]int, len(whole))
		for at, one := range whole {
			numbers[at] = show(one)
		}
		return fmt.Sprint(numbers)
	}
	return listLook{told, func(n int) { scribbleAll(whole, filler(n)) }}
}

func lookWords(list []uint32) listLook {
	return lookAt(list, func(n int) uint32 { return 0xdead0000 + uint32(n) }, func(w uint32) int { return int(w) })
}

// lookImage has the outer list, of which it tells how long the inner ones are, and each of those.
func lookImage(image [][]byte) []listLook {
	list := []listLook{lookAt(image, func(n int) []byte { return make([]byte, n) }, func(b []byte) int { return len(b) })}
	for _, part := range image[:cap(image)] {
		list = append(list, lookAt(part, func(n int) byte { return byte(n) }, func(b byte) int { return int(b) }))
	}
	return list
}

func lookCache(rows [][]impl.Way) []listLook {
	list := []listLook{lookAt(rows, func(n int) []impl.Way { return make([]impl.Way, n) }, func(row []impl.Way) int { return len(row) })}
	for _, row := range rows[:cap(rows)] {
		list = append(list, lookAt(row, func(n int) impl.Way { return dirty(n) }, func(w impl.Way) int { return 2*w.Tag + int(oneByHand(w.Dirty)) }))
	}
	return list
}

// partLooks are all lists of a state, also those within others and those behind their ends.
func partLooks(s impl.PartState) []listLook {
	list := slices.Concat(lookImage(s.Guest.Ram), lookImage(s.Boot), lookCache(s.Cache.Rows))
	list = append(list, lookWords(s.Guest.Regs), lookAt(s.Tlb.Pages, func(n int) int { return -n }, func(n int) int { return n }))
	list = append(list, lookAt(s.Outs, func(n int) impl.OutEnd { return outOf(n, n) }, func(o impl.OutEnd) int { return 1000*o.Held + len(o.Sent) }))
	for _, o := range s.Outs[:cap(s.Outs)] {
		list = append(list, lookWords(o.Sent))
	}
	list = append(list, lookAt(s.Ins, inOf, func(i impl.InEnd) int { return len(i.Ready) }))
	for _, i := range s.Ins[:cap(s.Ins)] {
		list = append(list, lookWords(i.Ready))
	}
	list = append(list, lookAt(s.Devs, func(n int) impl.DevState { return devOf(n, n) }, func(d impl.DevState) int { return 1000*len(d.Latch) + len(d.Seen) }))
	for _, d := range s.Devs[:cap(s.Devs)] {
		list = append(list, lookWords(d.Latch), lookWords(d.Seen))
	}
	return list
}

// wantLooksApart writes over each list with a thing of its own: where two share memory, the first no longer has its own.
func wantLooksApart(t *testing.T, what string, looks []listLook) {
	t.Helper()
	texts := []string{}
	for n, look := range looks {
		look.scribble(n + 1)
		texts = append(texts, look.told())
	}
	for n, look := range looks {
		if look.told() != texts[n] {
			t.Fatalf("%s: list %d shares memory with another: %s became %s", what, n, texts[n], look.told())
		}
	}
}

func toldOf(looks []listLook) string {
	text := ""
	for _, look := range looks {
		text += look.told() + "\n"
	}
	return text
}

func roomyImage(image [][]byte) [][]byte {
	lists := [][]byte{}
	for _, part := range image {
		list, _ := roomed(part, 0x5a)
		lists = append(lists, list)
	}
	lists, _ = roomed(lists, []byte{9, 9})
	return lists
}

// roomyPart has each list at the front of a greater one.
func roomyPart(s impl.PartState) impl.PartState {
	s = copyPart(s)
	words := func(list []uint32) []uint32 {
		list, _ = roomed(list, 0x5a5a)
		return list
	}
	s.Guest.Regs, s.Guest.Ram, s.Boot = words(s.Guest.Regs), roomyImage(s.Guest.Ram), roomyImage(s.Boot)
	for at, row := range s.Cache.Rows {
		s.Cache.Rows[at], _ = roomed(row, dirty(4000))
	}
	for at := range s.Outs {
		s.Outs[at].Sent = words(s.Outs[at].Sent)
	}
	for at := range s.Ins {
		s.Ins[at].Ready = words(s.Ins[at].Ready)
	}
	for at, d := range s.Devs {
		s.Devs[at] = impl.DevState{Latch: words(d.Latch), Seen: words(d.Seen)}
	}
	s.Cache.Rows, _ = roomed(s.Cache.Rows, []impl.Way{dirty(5000)})
	s.Tlb.Pages, _ = roomed(s.Tlb.Pages, 999)
	s.Outs, _ = roomed(s.Outs, outOf(1, 1))
	s.Ins, _ = roomed(s.Ins, inOf(1))
	s.Devs, _ = roomed(s.Devs, devOf(1, 1))
	return s
}

// partsFrom is what every function that answers a state makes of one.
func partsFrom(x impl.Tables, p int, s impl.PartState) []impl.PartState {
	list := []impl.PartState{}
	add := func(after impl.PartState, _ bool) { list = append(list, after) }
	add(impl.PartBoot(x, p, s.Boot))
	add(impl.PartSlot(x, p, s, 1400))
	add(impl.PartRestart(x, p, s))
	for dev := -1; dev < 9; dev++ {
		add(impl.PartInput(x, p, s, dev, 5))
	}
	after, _, _ := impl.PartStep(x, p, s, 300)
	return append(list, after)
}

// memoryStates are right ones at each call, at faults under each policy, and at interrupts, and wrong ones.
func memoryStates(t *testing.T, chance *rand.Rand) []struct {
	x impl.Tables
	p int
	s impl.PartState
} {
	t.Helper()
	type given = struct {
		x impl.Tables
		p int
		s impl.PartState
	}
	list := []given{}
	for _, row := range opRows() {
		x := partTables()
		for p := range 3 {
			s := fullPart(x, p)
			s.Virt.On = false
			layWord(x.Parts[p].Windows, s.Guest, int(s.Guest.PC), wordByHand(row.right(1, 2, 3, chance.Intn(7))))
			list = append(list, given{x, p, s}, given{x, p, changedPart(s, func(s *impl.PartState) { s.Virt.On, s.Virt.Inside = true, false })})
		}
	}
	for _, policy := range []impl.Policy{{Kind: 0}, {Kind: 1, Most: 5}, {Kind: 2}} {
		x := withPolicy(partTables(), 0, policy)
		list = append(list, given{x, 0, changedPart(fullPart(x, 0), func(s *impl.PartState) { s.Guest.PC = 1 })})
	}
	for range 60 {
		x := drawnTables(chance)
		p := chance.Intn(len(x.Parts))
		s := drawnPart(chance, x, p)
		list = append(list, given{x, p, copyPart(s)})
		disturbPart(chance, &s)
		list = append(list, given{x, p, s})
	}
	return append(list, given{partTables(), 3, fullPart(partTables(), 0)}, given{impl.Tables{}, 0, fullPart(partTables(), 0)}, given{partTables(), 0, impl.PartState{}})
}

// Promise 26: no list that is handed in, and none within it, is written into or looked at behind its end.
func TestPartitionsWriteIntoNothing(t *testing.T) {
	for _, g := range memoryStates(t, rand.New(rand.NewSource(180))) {
		tables, toldTables := roomyTables(g.x)
		s := roomyPart(g.s)
		looks := partLooks(s)
		before, beforeTables := toldOf(looks), toldTables()
		ok := impl.PartOk(tables, g.p, s)
		image := impl.ImageOk(tables, g.p, s.Boot)
		answers := partsFrom(tables, g.p, s)
		if after := toldOf(looks); after != before {
			t.Fatalf("%s\nbecame\n%s", before, after)
		}
		if after := toldTables(); after != beforeTables {
			t.Fatalf("%s\nbecame\n%s", beforeTables, after)
		}
		if ok != impl.PartOk(g.x, g.p, g.s) || image != impl.ImageOk(g.x, g.p, g.s.Boot) || !slices.EqualFunc(answers, partsFrom(g.x, g.p, g.s), samePart) {
			t.Fatal("what lies behind a list was looked at")
		}
	}
}

// Promise 26: an answer is new memory: what is written into it is seen in no argument, and the other way round.
func TestPartitionsAreNewMemory(t *testing.T) {
	for _, g := range memoryStates(t, rand.New(rand.NewSource(181))) {
		tables, toldTables := roomyTables(g.x)
		s := roomyPart(g.s)
		looks := partLooks(s)
		before, beforeTables := toldOf(looks), toldTables()
		want := partsFrom(g.x, g.p, g.s)
		for _, after := range partsFrom(tables, g.p, s) {
			for _, look := range partLooks(after) {
				look.scribble(77)
			}
		}
		if toldOf(looks) != before || toldTables() != beforeTables {
			t.Fatal("an answer shares memory with an argument")
		}
		kept := partsFrom(tables, g.p, s)
		for _, look := range looks {
			look.scribble(77)
		}
		if !slices.EqualFunc(kept, want, samePart) {
			t.Fatal("an argument shares memory with an answer")
		}
	}
}

// No two lists of one answer share memory, also where lists of what was handed in do.
func TestListsOfAPartitionAreItsOwn(t *testing.T) {
	for _, g := range memoryStates(t, rand.New(rand.NewSource(182))) {
		shared := copyPart(g.s)
		if len(shared.Boot) == len(shared.Guest.Ram) {
			shared.Boot = shared.Guest.Ram
		}
		for _, s := range []impl.PartState{g.s, shared} {
			for n, answer := range partsFrom(g.x, g.p, s) {
				wantLooksApart(t, fmt.Sprint("answer ", n), partLooks(answer))
			}
		}
	}
}

// Nothing is kept from call to call: what was asked in between changes no answer.
func TestPartitionsKeepNothing(t *testing.T) {
	states := memoryStates(t, rand.New(rand.NewSource(183)))
	first := [][]impl.PartState{}
	for _, g := range states {
		first = append(first, partsFrom(g.x, g.p, g.s))
	}
	for n, g := range slices.Backward(states) {
		if !slices.EqualFunc(partsFrom(g.x, g.p, g.s), first[n], samePart) {
			t.Fatal("another answer the second time")
		}
	}
}
