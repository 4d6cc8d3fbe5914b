package impl

import (
	"strconv"
	"strings"
)

const (
	MaxText  = 20000
	MaxLines = 600
)

const (
	wordBits  = 32
	wordBytes = 4
	hexWidth  = 8
	hexDigits = "0123456789abcdef"
	foldTurn  = 5
	foldAdd   = 2654435769
	decMost   = 4294967295
)

// word holds the arithmetic of the core in one place: uint32 alone has no sign, and the sign is where mistakes hide.
type word uint32

func (x word) add(y word) (word, bool) {
	sum := x + y
	return sum, sum < x
}

func (x word) sext(bits int) word {
	if bits < 1 || bits > wordBits {
		return 0
	}
	above := wordBits - bits
	return word(int32(x<<above) >> above)
}

func (x word) sar(n word) word {
	return word(int32(x) >> (n % wordBits))
}

// The mask, unlike %, gives a remainder in 0 .. 31 below 0 too, and needs no negation, which the least int has not.
func (x word) rot(n int) word {
	places := n & (wordBits - 1)
	return x<<places | x>>(wordBits-places)
}

func (x word) less(y word) bool {
	return int32(x) < int32(y)
}

func (x word) bytes() []byte {
	list := make([]byte, wordBytes)
	for i := range list {
		list[i] = byte(x >> (8 * i))
	}
	return list
}

func (x word) fold(y word) word {
	return (x.rot(foldTurn) ^ y) + foldAdd
}

func (x word) hex() string {
	var text [hexWidth]byte
	for i := range text {
		text[i] = hexDigits[x.rot(4*(i+1))&15]
	}
	return string(text[:])
}

func AddWord(a uint32, b uint32) (uint32, bool) {
	sum, left := word(a).add(word(b))
	return uint32(sum), left
}

func SextWord(x uint32, bits int) uint32 {
	return uint32(word(x).sext(bits))
}

func SarWord(x uint32, n uint32) uint32 {
	return uint32(word(x).sar(word(n)))
}

func RotWord(x uint32, n int) uint32 {
	return uint32(word(x).rot(n))
}

func LessWord(a uint32, b uint32) bool {
	return word(a).less(word(b))
}

func BytesOf(x uint32) []byte {
	return word(x).bytes()
}

func WordOf(b []byte) (uint32, bool) {
	if len(b) != wordBytes {
		return 0, false
	}
	x := uint32(0)
	for i, part := range b {
		x |= uint32(part) << (8 * i)
	}
	return x, true
}

func FoldWords(list []uint32) uint32 {
	x := word(1)
	for _, y := range list {
		x = x.fold(word(y))
	}
	return uint32(x)
}

func HexWord(x uint32) string {
	return word(x).hex()
}

func WordHex(s string) (uint32, bool) {
	if len(s) != hexWidth {
		return 0, false
	}
	x := uint32(0)
	for _, r := range s {
		digit, ok := hexDigit(r)
		if !ok {
			return 0, false
		}
		x = x<<4 | digit
	}
	return x, true
}

func hexDigit(r rune) (uint32, bool) {
	if r >= '0' && r <= '9' {
		return uint32(r - '0'), true
	}
	if r >= 'a' && r <= 'f' {
		return uint32(r-'a') + 10, true
	}
	return 0, false
}

func DecText(n int) string {
	return strconv.Itoa(n)
}

func DecNum(s string, most int) (int, bool) {
	if most < 0 || most > decMost {
		return 0, false
	}
	digits, below := strings.CutPrefix(s, "-")
	size, ok := decSize(digits, most)
	if !ok || below && size == 0 {
		return 0, false
	}
	if below {
		return -size, true
	}
	return size, true
}

// decSize gives up at the first digit that passes most, so that a text of any length cannot wrap the sum.
func decSize(digits string, most int) (int, bool) {
	size := 0
	for at, r := range digits {
		needless := at > 0 && size == 0
		if r < '0' || r > '9' || needless {
			return 0, false
		}
		size = size*10 + int(r-'0')
		if size > most {
			return 0, false
		}
	}
	return size, digits != ""
}
