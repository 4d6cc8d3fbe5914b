package tests

import (
	"bytes"
	"math"
	"slices"
	"strconv"
	"strings"
	"testing"

	"loop.example/g00076/impl"
)

// someWords has the edges, each single bit, each run of low bits, and words of a fixed rule between them.
func someWords() []uint32 {
	list := []uint32{0, 1, 2, 3, 127, 128, 255, 256, 8191, 8192, 65535, 65536, 2147483646, 2147483647, 2147483648, 2147483649, 4294967294, 4294967295, 0x01020304, 0x89abcdef}
	for i := 0; i < 32; i++ {
		list = append(list, 1<<i, 1<<i-1, ^uint32(1<<i))
	}
	x := uint32(7)
	for i := 0; i < 200; i++ {
		x = x*1664525 + 1013904223
		list = append(list, x)
	}
	return list
}

// someTurns has every turn of three rounds each way, and the ints at which a negation or a sum would wrap.
func someTurns() []int {
	list := []int{math.MinInt, math.MinInt + 1, math.MaxInt, math.MaxInt - 1, math.MinInt32, math.MaxInt32, math.MinInt32 - 1, math.MaxInt32 + 1}
	for n := -96; n <= 96; n++ {
		list = append(list, n)
	}
	return list
}

// turnedOnce turns by one place at a time, so that no remainder is taken as the program takes it.
func turnedOnce(x uint32, places int) uint32 {
	for ; places > 0; places-- {
		high := x >= 1<<31
		x *= 2
		if high {
			x++
		}
	}
	return x
}

func TestAddWord(t *testing.T) {
	words := someWords()
	for _, a := range words {
		for _, b := range words {
			wide := uint64(a) + uint64(b)
			sum, left := impl.AddWord(a, b)
			if sum != uint32(wide%(1<<32)) || left != (wide > math.MaxUint32) {
				t.Fatalf("AddWord(%d, %d) = %d, %v", a, b, sum, left)
			}
		}
	}
}

func TestAddWordEdges(t *testing.T) {
	for _, c := range []struct {
		a, b, sum uint32
		left      bool
	}{
		{0, 0, 0, false},
		{4294967295, 0, 4294967295, false},
		{4294967294, 1, 4294967295, false},
		{4294967295, 1, 0, true},
		{1, 4294967295, 0, true},
		{2147483648, 2147483648, 0, true},
		{4294967295, 4294967295, 4294967294, true},
	} {
		if sum, left := impl.AddWord(c.a, c.b); sum != c.sum || left != c.left {
			t.Errorf("AddWord(%d, %d) = %d, %v", c.a, c.b, sum, left)
		}
	}
}

func TestSextWord(t *testing.T) {
	for _, x := range someWords() {
		for bits := 1; bits <= 32; bits++ {
			low := int64(x) % (int64(1) << bits)
			if low >= int64(1)<<(bits-1) {
				low -= int64(1) << bits
			}
			if got := impl.SextWord(x, bits); got != uint32(low) {
				t.Fatalf("SextWord(%d, %d) = %d, not %d", x, bits, got, uint32(low))
			}
		}
	}
}

func TestSextWordEdges(t *testing.T) {
	for _, c := range []struct {
		x    uint32
		bits int
		want uint32
	}{
		{5, 3, 4294967293},
		{5, 4, 5},
		{1, 1, 4294967295},
		{2, 1, 0},
		{3, 1, 4294967295},
		{2147483648, 32, 2147483648},
		{4294967295, 32, 4294967295},
		{2147483647, 31, 4294967295},
	} {
		if got := impl.SextWord(c.x, c.bits); got != c.want {
			t.Errorf("SextWord(%d, %d) = %d", c.x, c.bits, got)
		}
	}
	for _, bits := range []int{0, -1, -32, 33, 34, 64, 65, math.MinInt, math.MaxInt, math.MinInt + 1, 1<<32 + 1} {
		for _, x := range []uint32{0, 1, 5, 2147483648, 4294967295} {
			if got := impl.SextWord(x, bits); got != 0 {
				t.Errorf("SextWord(%d, %d) = %d", x, bits, got)
			}
		}
	}
}

func TestSarWord(t *testing.T) {
	for _, x := range someWords() {
		for _, n := range []uint32{0, 1, 2, 4, 15, 30, 31, 32, 33, 34, 62, 63, 64, 65, 95, 96, 2147483648, 4294967264, 4294967295} {
			want := x
			for i := uint32(0); i < n%32; i++ {
				want = want/2 + want&(1<<31)
			}
			if got := impl.SarWord(x, n); got != want {
				t.Fatalf("SarWord(%d, %d) = %d, not %d", x, n, got, want)
			}
		}
	}
	if impl.SarWord(2147483648, 31) != 4294967295 || impl.SarWord(2147483647, 31) != 0 || impl.SarWord(2147483648, 32) != 2147483648 {
		t.Error("SarWord at its ends")
	}
}

func TestRotWord(t *testing.T) {
	for _, x := range someWords() {
		for _, n := range someTurns() {
			places := (n%32 + 32) % 32
			if got, want := impl.RotWord(x, n), turnedOnce(x, places); got != want {
				t.Fatalf("RotWord(%d, %d) = %d, not %d", x, n, got, want)
			}
		}
	}
	for _, c := range []struct {
		x    uint32
		n    int
		want uint32
	}{
		{2147483649, 1, 3},
		{3, -1, 2147483649},
		{3, 32, 3},
		{3, -32, 3},
		{3, 33, 6},
		{3, -33, 2147483649},
		{3, math.MinInt, 3},
		{3, math.MinInt + 1, 6},
		{3, math.MaxInt, 2147483649},
	} {
		if got := impl.RotWord(c.x, c.n); got != c.want {
			t.Errorf("RotWord(%d, %d) = %d", c.x, c.n, got)
		}
	}
}

func TestTurnsComeBack(t *testing.T) {
	for _, x := range someWords() {
		for _, n := range someTurns() {
			// The least int has no negation; its place among turns is that of 0.
			if n != math.MinInt && impl.RotWord(impl.RotWord(x, n), -n) != x {
				t.Fatalf("%d turned by %d does not come back", x, n)
			}
			if impl.RotWord(impl.RotWord(x, n), 32-(n%32)) != x {
				t.Fatalf("%d turned by %d does not come round", x, n)
			}
		}
	}
}

func TestLessWord(t *testing.T) {
	words := someWords()
	for _, a := range words {
		for _, b := range words {
			// Half of the range added to both turns the order with a sign into the one without.
			want := a+2147483648 < b+2147483648
			if impl.LessWord(a, b) != want {
				t.Fatalf("LessWord(%d, %d) is not %v", a, b, want)
			}
		}
	}
	if !impl.LessWord(2147483648, 2147483647) || impl.LessWord(2147483647, 2147483648) || impl.LessWord(5, 5) || !impl.LessWord(4294967295, 0) {
		t.Error("LessWord at its ends")
	}
}

func TestBytesComeBack(t *testing.T) {
	for _, x := range someWords() {
		b := impl.BytesOf(x)
		want := []byte{byte(x), byte(x / 256), byte(x / 65536), byte(x / 16777216)}
		if !bytes.Equal(b, want) {
			t.Fatalf("BytesOf(%d) = %v", x, b)
		}
		if back, ok := impl.WordOf(b); !ok || back != x {
			t.Fatalf("WordOf(BytesOf(%d)) = %d, %v", x, back, ok)
		}
	}
}

func TestWordsComeBackFromBytes(t *testing.T) {
	for _, b := range [][]byte{{0, 0, 0, 0}, {1, 2, 3, 4}, {255, 0, 0, 0}, {0, 0, 0, 255}, {255, 255, 255, 255}, {0, 128, 0, 128}} {
		x, ok := impl.WordOf(b)
		if !ok || !bytes.Equal(impl.BytesOf(x), b) {
			t.Errorf("BytesOf(WordOf(%v)) = %v, %v", b, impl.BytesOf(x), ok)
		}
	}
}

func TestWordOfWrong(t *testing.T) {
	for _, b := range [][]byte{nil, {}, {1}, {1, 2}, {1, 2, 3}, {1, 2, 3, 4, 5}, {1, 2, 3, 4, 0}, {0, 0, 0, 0, 0, 0, 0, 1}, make([]byte, 1000), make([]byte, 3, 8)} {
		if x, ok := impl.WordOf(b); ok || x != 0 {
			t.Errorf("WordOf of %d bytes = %d, %v", len(b), x, ok)
		}
	}
}

func TestFoldWords(t *testing.T) {
	if impl.FoldWords(nil) != 1 || impl.FoldWords([]uint32{}) != 1 {
		t.Error("the empty list")
	}
	if impl.FoldWords([]uint32{0}) != 2654435801 {
		t.Error("one word")
	}
	words := someWords()
	for n := 0; n <= len(words); n++ {
		want := uint32(1)
		for _, w := range words[:n] {
			want = (turnedOnce(want, 5) ^ w) + 2654435769
		}
		if got := impl.FoldWords(words[:n]); got != want {
			t.Fatalf("FoldWords of %d words = %d, not %d", n, got, want)
		}
	}
}

func TestFoldTellsOneWordTurned(t *testing.T) {
	list := someWords()[:40]
	before := impl.FoldWords(list)
	for at, old := range list {
		for n := -40; n <= 40; n++ {
			list[at] = impl.RotWord(old, n)
			if same := impl.FoldWords(list) == before; same != (list[at] == old) {
				t.Fatalf("word %d of the list turned by %d: same fold is %v", at, n, same)
			}
		}
		for bit := 0; bit < 32; bit++ {
			list[at] = old ^ 1<<bit
			if impl.FoldWords(list) == before {
				t.Fatalf("bit %d of word %d is not in the fold", bit, at)
			}
		}
		list[at] = old
	}
}

func TestHexComesBack(t *testing.T) {
	for _, x := range someWords() {
		want := strconv.FormatUint(uint64(x), 16)
		want = strings.Repeat("0", 8-len(want)) + want
		s := impl.HexWord(x)
		if s != want {
			t.Fatalf("HexWord(%d) = %q", x, s)
		}
		if back, ok := impl.WordHex(s); !ok || back != x {
			t.Fatalf("WordHex(%q) = %d, %v", s, back, ok)
		}
	}
	if impl.HexWord(0) != "00000000" || impl.HexWord(255) != "000000ff" || impl.HexWord(0x89abcdef) != "89abcdef" || impl.HexWord(4294967295) != "ffffffff" {
		t.Error("HexWord at its ends")
	}
}

func TestWordHexWrong(t *testing.T) {
	for _, s := range []string{
		"", "0", "0000000", "000000000", "ffffffff0", "000000FF", "FFFFFFFF", "0000000g", "g0000000", "0000000G",
		"0x0000ff", "-0000001", "+0000001", " 0000001", "0000001 ", "0000 001", "0000000/", "0000000:", "0000000`", "0000000@",
		"00000001\n", "0000000\x00", "0000000\xff", "000000é", "0000000é", "00000000é", "０００", "\xff\xff\xff\xff\xff\xff\xff\xff",
		strings.Repeat("0", 100000),
	} {
		if x, ok := impl.WordHex(s); ok || x != 0 {
			t.Errorf("WordHex of %d bytes = %d, %v", len(s), x, ok)
		}
	}
}

// Every byte in every place: just the sixteen digits stand for a word.
func TestWordHexEachByte(t *testing.T) {
	for at := 0; at < 8; at++ {
		for b := 0; b < 256; b++ {
			text := []byte("12345678")
			text[at] = byte(b)
			s := string(text)
			x, ok := impl.WordHex(s)
			if ok != strings.Contains("0123456789abcdef", string([]byte{byte(b)})) {
				t.Fatalf("WordHex(%q) says %v", s, ok)
			}
			if ok && impl.HexWord(x) != s || !ok && x != 0 {
				t.Fatalf("WordHex(%q) = %d", s, x)
			}
		}
	}
}

func TestDecText(t *testing.T) {
	for _, c := range []struct {
		n    int
		want string
	}{
		{0, "0"}, {1, "1"}, {-1, "-1"}, {9, "9"}, {10, "10"}, {-10, "-10"}, {100, "100"}, {-12, "-12"}, {1000000, "1000000"},
		{4294967295, "4294967295"}, {-4294967295, "-4294967295"}, {4294967296, "4294967296"},
		{math.MaxInt, "9223372036854775807"}, {math.MinInt, "-9223372036854775808"},
		{math.MaxInt - 1, "9223372036854775806"}, {math.MinInt + 1, "-9223372036854775807"},
	} {
		if got := impl.DecText(c.n); got != c.want {
			t.Errorf("DecText(%d) = %q", c.n, got)
		}
	}
}

func TestDecComesBack(t *testing.T) {
	list := []int{0, 4294967295, 4294967294, 999999999, 1000000000}
	for _, x := range someWords() {
		list = append(list, int(x))
	}
	for n := 0; n <= 1100; n++ {
		list = append(list, n)
	}
	for _, size := range list {
		for _, n := range []int{size, -size} {
			s := impl.DecText(n)
			if got, ok := impl.DecNum(s, 4294967295); !ok || got != n {
				t.Fatalf("DecNum(%q, 4294967295) = %d, %v", s, got, ok)
			}
			if got, ok := impl.DecNum(s, size); !ok || got != n {
				t.Fatalf("DecNum(%q, %d) = %d, %v", s, size, got, ok)
			}
			if got, ok := impl.DecNum(s, size-1); ok || got != 0 {
				t.Fatalf("DecNum(%q, %d) = %d, %v", s, size-1, got, ok)
			}
		}
	}
}

func TestDecNumTooGreat(t *testing.T) {
	for _, s := range []string{
		"4294967296", "-4294967296", "42949672950", "9999999999",
		"9223372036854775807", "-9223372036854775808", "9223372036854775808", "-9223372036854775809",
		"18446744073709551616", "18446744073709551617", "-18446744073709551617", "340282366920938463463374607431768211457",
		"1" + strings.Repeat("0", 64), "1" + strings.Repeat("0", 100000), strings.Repeat("9", 100000),
	} {
		if n, ok := impl.DecNum(s, 4294967295); ok || n != 0 {
			t.Errorf("DecNum of %d bytes = %d, %v", len(s), n, ok)
		}
	}
	if n, ok := impl.DecNum("1", 0); ok || n != 0 {
		t.Error("1 beyond 0")
	}
	if n, ok := impl.DecNum("0", 0); !ok || n != 0 {
		t.Error("0 at most 0")
	}
}

func TestDecNumWrong(t *testing.T) {
	for _, s := range []string{
		"", "-", "--", "--1", "-0", "-00", "00", "01", "007", "-01", "+", "+0", "+1", "1-", "1+", "- 1", " 1", "1 ", "1 2", " ", "\n", "1\n", "\t1",
		"1.0", "1e3", "0x1", "1_0", "1,0", "a", "1a", "a1", "/", ":", "1/", "1:", "1\x00", "\x001", "\xff", "1\xff", "é", "1é", "１", "١", "−1", "\xe2\x88\x921",
		strings.Repeat("0", 100000), "-" + strings.Repeat("0", 100000),
	} {
		for _, most := range []int{0, 1, 7, 1000, 4294967295} {
			if n, ok := impl.DecNum(s, most); ok || n != 0 {
				t.Errorf("DecNum of %q (%d bytes), %d = %d, %v", s[:min(len(s), 12)], len(s), most, n, ok)
			}
		}
	}
}

func TestDecNumMost(t *testing.T) {
	for _, most := range []int{-1, -2, -4294967295, 4294967296, 4294967297, math.MinInt, math.MinInt + 1, math.MaxInt, math.MaxInt - 1} {
		for _, s := range []string{"0", "1", "-1", "12", "-12", "4294967295", ""} {
			if n, ok := impl.DecNum(s, most); ok || n != 0 {
				t.Errorf("DecNum(%q, %d) = %d, %v", s, most, n, ok)
			}
		}
	}
}

// Every text of at most three of these bytes: a number is read just when it is its own text.
func TestDecNumShortTexts(t *testing.T) {
	texts := []string{""}
	for from := 0; len(texts[from]) < 3; from++ {
		for _, b := range []byte("-+0159 :/\x80") {
			texts = append(texts, texts[from]+string([]byte{b}))
		}
	}
	for _, s := range texts {
		want, err := strconv.Atoi(s)
		right := err == nil && strconv.Itoa(want) == s
		for _, most := range []int{0, 1, 5, 9, 10, 55, 99, 100, 999, 4294967295} {
			n, ok := impl.DecNum(s, most)
			fits := right && max(want, -want) <= most
			if ok != fits || ok && n != want || !ok && n != 0 {
				t.Fatalf("DecNum(%q, %d) = %d, %v", s, most, n, ok)
			}
		}
	}
}

func TestWordArgumentsStay(t *testing.T) {
	for _, length := range []int{0, 3, 4, 5} {
		room := []byte{1, 2, 3, 4, 5, 6, 7, 8}
		before := slices.Clone(room)
		impl.WordOf(room[:length])
		if !bytes.Equal(room, before) {
			t.Errorf("WordOf of %d bytes wrote into its argument or behind it", length)
		}
	}
	for length := 0; length <= 6; length++ {
		room := []uint32{9, 8, 7, 6, 5, 4, 3, 2}
		before := slices.Clone(room)
		impl.FoldWords(room[:length])
		if !slices.Equal(room, before) {
			t.Errorf("FoldWords of %d words wrote into its argument or behind it", length)
		}
	}
}

func TestBytesAreNewMemory(t *testing.T) {
	first := impl.BytesOf(67305985)
	second := impl.BytesOf(67305985)
	first[0], first[3] = 99, 99
	if !bytes.Equal(second, []byte{1, 2, 3, 4}) || !bytes.Equal(impl.BytesOf(67305985), []byte{1, 2, 3, 4}) {
		t.Error("two answers of BytesOf share memory")
	}
}
