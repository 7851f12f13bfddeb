package impl

import (
	"strconv"
	"strings"
)

const MaxVar = 562949953421311

const (
	maxWidth   = 7
	maxDigits  = 9
	varBytes   = 7
	varBase    = 128
	digitSigns = "0123456789abcdef"
)

func Fixed(n int, width int) string {
	if !widthOk(width) || n < 0 || n>>(8*width) != 0 {
		return ""
	}
	out := make([]byte, width)
	for i := range width {
		out[width-1-i] = byte(n >> (8 * i))
	}
	return string(out)
}

func ReadFixed(s string, width int) (int, bool) {
	if !widthOk(width) || len(s) < width {
		return 0, false
	}
	n := 0
	for i := range width {
		n = n<<8 | int(s[i])
	}
	return n, true
}

// An eighth byte would reach the sign of an int.
func widthOk(width int) bool {
	return 1 <= width && width <= maxWidth
}

func Var(n int) string {
	if n < 0 || n > MaxVar {
		return ""
	}
	out := make([]byte, 0, varBytes)
	for n >= varBase {
		out = append(out, byte(varBase+n%varBase))
		n /= varBase
	}
	return string(append(out, byte(n)))
}

func ReadVar(s string) (int, int) {
	n, weight := 0, 1
	// varBytes bytes hold MaxVar and no more: a bound on them is one on n.
reading:
	for i := range min(len(s), varBytes) {
		b := int(s[i])
		n += b % varBase * weight
		weight *= varBase
		switch {
		case b == 0 && i > 0:
			// The byte ahead could have been the last one.
			break reading
		case b < varBase:
			return n, i + 1
		}
	}
	return 0, 0
}

func Hex(s string) string {
	out := make([]byte, 0, 2*len(s))
	for i := range len(s) {
		out = append(out, digitSigns[s[i]/16], digitSigns[s[i]%16])
	}
	return string(out)
}

func Unhex(s string) (string, bool) {
	if len(s)%2 != 0 {
		return "", false
	}
	out, ok := make([]byte, 0, len(s)/2), true
reading:
	for i := range len(s) / 2 {
		b := 0
		for j := range 2 {
			d := digitOf(s[2*i+j], 16)
			if d < 0 {
				out, ok = nil, false
				break reading
			}
			b = b*16 + d
		}
		out = append(out, byte(b))
	}
	return string(out), ok
}

// It is -1 where the byte is no digit of the base.
func digitOf(b byte, base int) int {
	return strings.IndexByte(digitSigns[:base], b)
}

func Dec(n int) string {
	return strconv.Itoa(n)
}

func ReadDec(s string) (int, bool) {
	digits, below := strings.CutPrefix(s, "-")
	if digits == "" || len(digits) > maxDigits {
		return 0, false
	}
	// A nought ahead stands for 0 alone, which has no sign either.
	if digits[0] == '0' && s != "0" {
		return 0, false
	}
	n, ok := readDigits(digits)
	if below {
		n = -n
	}
	return n, ok
}

func readDigits(digits string) (int, bool) {
	n, ok := 0, true
reading:
	for i := range len(digits) {
		d := digitOf(digits[i], 10)
		if d < 0 {
			n, ok = 0, false
			break reading
		}
		n = n*10 + d
	}
	return n, ok
}
