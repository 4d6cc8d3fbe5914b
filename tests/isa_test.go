package tests

import (
	"math"
	"slices"
	"strings"
	"testing"

	"loop.example/g00076/impl"
)

// opRow is one op as the document's table and sentences tell it: which fields it has, writes and reads, by their letters (i for Imm).
type opRow struct {
	op     int
	name   string
	form   int
	fields string
	writes string
	reads  string
}

func opRows() []opRow {
	return []opRow{
		{impl.OpNop, "nop", 0, "", "", ""},
		{impl.OpAdd, "add", 7, "ABC", "A", "BC"},
		{impl.OpSub, "sub", 7, "ABC", "A", "BC"},
		{impl.OpAnd, "and", 7, "ABC", "A", "BC"},
		{impl.OpOr, "or", 7, "ABC", "A", "BC"},
		{impl.OpXor, "xor", 7, "ABC", "A", "BC"},
		{impl.OpShl, "shl", 7, "ABC", "A", "BC"},
		{impl.OpShr, "shr", 7, "ABC", "A", "BC"},
		{impl.OpSar, "sar", 7, "ABC", "A", "BC"},
		{impl.OpMul, "mul", 7, "ABC", "A", "BC"},
		{impl.OpDiv, "div", 7, "ABC", "A", "BC"},
		{impl.OpSlt, "slt", 7, "ABC", "A", "BC"},
		{impl.OpSltu, "sltu", 7, "ABC", "A", "BC"},
		{impl.OpAddi, "addi", 11, "ABi", "A", "B"},
		{impl.OpLui, "lui", 9, "Ai", "A", ""},
		{impl.OpLw, "lw", 11, "ABi", "A", "B"},
		{impl.OpSw, "sw", 11, "ABi", "", "AB"},
		{impl.OpLb, "lb", 11, "ABi", "A", "B"},
		{impl.OpSb, "sb", 11, "ABi", "", "AB"},
		{impl.OpBeq, "beq", 11, "ABi", "", "AB"},
		{impl.OpBne, "bne", 11, "ABi", "", "AB"},
		{impl.OpBlt, "blt", 11, "ABi", "", "AB"},
		{impl.OpJal, "jal", 9, "Ai", "A", ""},
		{impl.OpJr, "jr", 10, "Bi", "", "B"},
		{impl.OpRdc, "rdc", 1, "A", "A", ""},
		{impl.OpSend, "send", 11, "ABi", "A", "B"},
		{impl.OpRecv, "recv", 11, "ABi", "AB", ""},
		{impl.OpRdev, "rdev", 11, "ABi", "AB", ""},
		{impl.OpCsrr, "csrr", 9, "Ai", "A", ""},
		{impl.OpCsrw, "csrw", 9, "Ai", "", "A"},
		{impl.OpIret, "iret", 0, "", "", ""},
		{impl.OpYield, "yield", 0, "", "", ""},
		{impl.OpTrap, "trap", 8, "i", "", ""},
	}
}

func (r opRow) has(letter string) bool {
	return strings.Contains(r.fields, letter)
}

// right makes an instruction of the row from numbers for all four fields, of which those that the form lacks are dropped.
func (r opRow) right(a, b, c, imm int) impl.Instr {
	i := impl.Instr{Op: r.op}
	if r.has("A") {
		i.A = a
	}
	if r.has("B") {
		i.B = b
	}
	if r.has("C") {
		i.C = c
	}
	if r.has("i") {
		i.Imm = imm
	}
	return i
}

func noOps() []int {
	return []int{-1, -2, -64, impl.OpCount, impl.OpCount + 1, 63, 64, 65, 97, 256, math.MaxInt32, math.MinInt32, math.MaxInt, math.MinInt, 1 << 32, 1<<32 + 1}
}

// withField is i with one field, told by its letter, set to n.
func withField(i impl.Instr, letter string, n int) impl.Instr {
	switch letter {
	case "A":
		i.A = n
	case "B":
		i.B = n
	case "C":
		i.C = n
	case "i":
		i.Imm = n
	}
	return i
}

// wordByHand puts the fields together by sums alone.
func wordByHand(i impl.Instr) uint32 {
	imm := i.Imm
	if imm < 0 {
		imm += 16384
	}
	return uint32(i.Op*67108864 + i.A*4194304 + i.B*262144 + i.C*16384 + imm)
}

// wantWrong asks every function that takes an instruction what it says of one that is none.
func wantWrong(t *testing.T, i impl.Instr) {
	t.Helper()
	if impl.InstrOk(i) {
		t.Errorf("InstrOk(%+v)", i)
	}
	if w, ok := impl.Encode(i); w != 0 || ok {
		t.Errorf("Encode(%+v) = %d, %v", i, w, ok)
	}
	if list := impl.Writes(i); len(list) != 0 {
		t.Errorf("Writes(%+v) = %v", i, list)
	}
	if list := impl.Reads(i); len(list) != 0 {
		t.Errorf("Reads(%+v) = %v", i, list)
	}
}

func wantRight(t *testing.T, i impl.Instr) {
	t.Helper()
	if !impl.InstrOk(i) {
		t.Errorf("not InstrOk(%+v)", i)
	}
	w, ok := impl.Encode(i)
	if !ok || w != wordByHand(i) {
		t.Errorf("Encode(%+v) = %d, %v", i, w, ok)
	}
	back, ok := impl.Decode(w)
	if !ok || back != i {
		t.Errorf("Decode(Encode(%+v)) = %+v, %v", i, back, ok)
	}
}

func TestOpsInOrder(t *testing.T) {
	rows := opRows()
	if len(rows) != 33 || impl.OpCount != 33 {
		t.Fatal("ops", len(rows), impl.OpCount)
	}
	for place, row := range rows {
		if row.op != place {
			t.Errorf("%s is op %d, not %d", row.name, row.op, place)
		}
	}
}

func TestFormsAndNames(t *testing.T) {
	for _, row := range opRows() {
		if form := impl.FormOf(row.op); form != row.form {
			t.Errorf("FormOf(%s) = %d", row.name, form)
		}
		if name := impl.OpName(row.op); name != row.name {
			t.Errorf("OpName(%d) = %q", row.op, name)
		}
		if op := impl.OpOf(row.name); op != row.op {
			t.Errorf("OpOf(%q) = %d", row.name, op)
		}
	}
}

func TestOpsThatAreNone(t *testing.T) {
	for _, op := range noOps() {
		if form := impl.FormOf(op); form != -1 {
			t.Errorf("FormOf(%d) = %d", op, form)
		}
		if name := impl.OpName(op); name != "" {
			t.Errorf("OpName(%d) = %q", op, name)
		}
		wantWrong(t, impl.Instr{Op: op})
		wantWrong(t, impl.Instr{Op: op, A: 1, B: 2, C: 3, Imm: 4})
	}
}

func TestNamesThatAreNone(t *testing.T) {
	for _, name := range []string{"", " ", "NOP", "Nop", "nop ", " nop", "no", "nopp", "ad", "addii", "s", "l", "word", "0", "-1", "nop\n", "\x00", "add\x00", "ädd", "OpAdd", strings.Repeat("nop", 10000)} {
		if op := impl.OpOf(name); op != -1 {
			t.Errorf("OpOf(%q) = %d", name, op)
		}
	}
}

func TestInstrComesBack(t *testing.T) {
	regs := []int{0, 1, 7, 8, 14, 15}
	imms := []int{-8192, -8191, -4096, -2, -1, 0, 1, 2, 4095, 8190, 8191}
	for _, row := range opRows() {
		for _, a := range regs {
			for _, b := range regs {
				for _, c := range regs {
					for _, imm := range imms {
						wantRight(t, row.right(a, b, c, imm))
					}
				}
			}
		}
	}
}

func TestEveryImmComesBack(t *testing.T) {
	for imm := -8192; imm <= 8191; imm++ {
		wantRight(t, impl.Instr{Op: impl.OpTrap, Imm: imm})
		wantRight(t, impl.Instr{Op: impl.OpAddi, A: 15, B: 15, Imm: imm})
	}
}

func TestFieldsOutOfRange(t *testing.T) {
	wrongRegs := []int{-1, 16, -16, 17, 32, math.MaxInt, math.MinInt, 1 << 32}
	wrongImms := []int{-8193, 8192, 16383, 16384, -16384, math.MaxInt, math.MinInt, 1 << 32}
	for _, row := range opRows() {
		for _, letter := range []string{"A", "B", "C", "i"} {
			if !row.has(letter) {
				continue
			}
			wrong := wrongRegs
			if letter == "i" {
				wrong = wrongImms
			}
			for _, n := range wrong {
				wantWrong(t, withField(row.right(1, 2, 3, 4), letter, n))
				wantWrong(t, withField(row.right(0, 0, 0, 0), letter, n))
			}
		}
	}
}

func TestFieldsThatAFormLacks(t *testing.T) {
	for _, row := range opRows() {
		for _, letter := range []string{"A", "B", "C", "i"} {
			if row.has(letter) {
				continue
			}
			for _, n := range []int{1, 15, 16, -1, 8191, -8192, math.MinInt} {
				i := withField(row.right(1, 2, 3, 4), letter, n)
				wantWrong(t, i)
			}
			for _, n := range []int{1, 2, 4, 8, 15} {
				w := wordByHand(withField(row.right(1, 2, 3, 4), letter, n))
				if i, ok := impl.Decode(w); ok || i != (impl.Instr{}) {
					t.Errorf("Decode(%d) = %+v, %v: %s has no %s", w, i, ok, row.name, letter)
				}
			}
		}
	}
}

func TestImmBitsThatAFormLacks(t *testing.T) {
	for _, row := range opRows() {
		if row.has("i") {
			continue
		}
		for bit := range 14 {
			w := wordByHand(row.right(1, 2, 3, 0)) | 1<<bit
			if i, ok := impl.Decode(w); ok || i != (impl.Instr{}) {
				t.Errorf("Decode(%d) = %+v, %v: %s has no Imm", w, i, ok, row.name)
			}
		}
	}
}

func TestWordsWhoseOpIsNone(t *testing.T) {
	for op := uint32(33); op <= 63; op++ {
		for _, rest := range []uint32{0, 1, 8192, 16383, 1 << 14, 1 << 18, 1 << 22, 1<<26 - 1} {
			if i, ok := impl.Decode(op<<26 | rest); ok || i != (impl.Instr{}) {
				t.Errorf("Decode(%d) = %+v, %v", op<<26|rest, i, ok)
			}
		}
	}
}

// No word has a right instruction that does not encode to it, and none is refused that one encodes to.
func TestDecodeHoldsAgainstEncode(t *testing.T) {
	words := someWords()
	x := uint32(11)
	for range 50000 {
		x = x*1664525 + 1013904223
		words = append(words, x, x%33<<26|x>>6)
	}
	rows := opRows()
	for _, w := range words {
		i, ok := impl.Decode(w)
		imm := int(w % 16384)
		if imm >= 8192 {
			imm -= 16384
		}
		want, right := impl.Instr{}, false
		if op := int(w / 67108864); op < 33 {
			want = impl.Instr{Op: op, A: int(w / 4194304 % 16), B: int(w / 262144 % 16), C: int(w / 16384 % 16), Imm: imm}
			right = want == rows[op].right(want.A, want.B, want.C, want.Imm)
		}
		if !right {
			want = impl.Instr{}
		}
		if i != want || ok != right {
			t.Fatalf("Decode(%d) = %+v, %v", w, i, ok)
		}
		if back, fine := impl.Encode(i); ok && (!fine || back != w) {
			t.Fatalf("Encode(Decode(%d)) = %d, %v", w, back, fine)
		}
	}
}

// registersByHand goes up through the registers, so that what it tells is ascending, each once, and without 0.
func registersByHand(i impl.Instr, letters string) []int {
	var list []int
	for r := 1; r <= 15; r++ {
		if strings.Contains(letters, "A") && i.A == r || strings.Contains(letters, "B") && i.B == r || strings.Contains(letters, "C") && i.C == r {
			list = append(list, r)
		}
	}
	return list
}

func TestWritesAndReads(t *testing.T) {
	for _, row := range opRows() {
		for a := range 16 {
			for b := range 16 {
				for c := range 16 {
					i := row.right(a, b, c, -3)
					if list := impl.Writes(i); !slices.Equal(list, registersByHand(i, row.writes)) {
						t.Fatalf("Writes(%s %+v) = %v", row.name, i, list)
					}
					if list := impl.Reads(i); !slices.Equal(list, registersByHand(i, row.reads)) {
						t.Fatalf("Reads(%s %+v) = %v", row.name, i, list)
					}
				}
			}
		}
	}
}

func TestWritesAndReadsEdges(t *testing.T) {
	for _, one := range []struct {
		i      impl.Instr
		writes []int
		reads  []int
	}{
		{impl.Instr{Op: impl.OpAdd}, nil, nil},
		{impl.Instr{Op: impl.OpAdd, A: 3, B: 5, C: 4}, []int{3}, []int{4, 5}},
		{impl.Instr{Op: impl.OpAdd, A: 3, B: 5, C: 5}, []int{3}, []int{5}},
		{impl.Instr{Op: impl.OpAdd, A: 3, B: 0, C: 5}, []int{3}, []int{5}},
		{impl.Instr{Op: impl.OpAdd, A: 0, B: 15, C: 0}, nil, []int{15}},
		{impl.Instr{Op: impl.OpRecv, A: 9, B: 2, Imm: 1}, []int{2, 9}, nil},
		{impl.Instr{Op: impl.OpRecv, A: 9, B: 9, Imm: 1}, []int{9}, nil},
		{impl.Instr{Op: impl.OpRdev, A: 0, B: 9}, []int{9}, nil},
		{impl.Instr{Op: impl.OpRdev}, nil, nil},
		{impl.Instr{Op: impl.OpSw, A: 15, B: 1}, nil, []int{1, 15}},
		{impl.Instr{Op: impl.OpCsrw, A: 4, Imm: 2}, nil, []int{4}},
		{impl.Instr{Op: impl.OpNop}, nil, nil},
		{impl.Instr{Op: impl.OpIret}, nil, nil},
		{impl.Instr{Op: impl.OpYield}, nil, nil},
		{impl.Instr{Op: impl.OpTrap, Imm: 7}, nil, nil},
		{impl.Instr{Op: impl.OpNop, A: 1}, nil, nil},
		{impl.Instr{Op: impl.OpAdd, A: 16, B: 1, C: 1}, nil, nil},
		{impl.Instr{Op: impl.OpAdd, A: 1, B: 2, C: 3, Imm: 1}, nil, nil},
	} {
		if list := impl.Writes(one.i); !slices.Equal(list, one.writes) {
			t.Errorf("Writes(%+v) = %v", one.i, list)
		}
		if list := impl.Reads(one.i); !slices.Equal(list, one.reads) {
			t.Errorf("Reads(%+v) = %v", one.i, list)
		}
	}
}

// Writing into what one call answered must not show in what the next one answers.
func TestRegistersAreNewMemory(t *testing.T) {
	i := impl.Instr{Op: impl.OpRecv, A: 9, B: 2, Imm: 1}
	first := impl.Writes(i)
	first[0], first[1] = 77, 78
	if list := impl.Writes(i); !slices.Equal(list, []int{2, 9}) {
		t.Error("Writes", list)
	}
	j := impl.Instr{Op: impl.OpSw, A: 9, B: 2, Imm: 1}
	second := impl.Reads(j)
	second[0], second[1] = 77, 78
	if list := impl.Reads(j); !slices.Equal(list, []int{2, 9}) {
		t.Error("Reads", list)
	}
}
