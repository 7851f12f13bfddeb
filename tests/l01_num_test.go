package tests

import (
	"math"
	"strings"
	"testing"

	"loop.example/g00769/impl"
)

// What stands behind a number that is read from the beginning of a text.
var tails = []string{"", "\x00", "\x01", "\x7f", "\x80", "\xff", "\x00\x00", "0", "tail"}

// numbersUpTo are all small numbers, and those around each power of two, up to the greatest one.
func numbersUpTo(greatest int) []int {
	var out []int
	for n := range 70000 {
		if n <= greatest {
			out = append(out, n)
		}
	}
	for i := 17; i < 63; i++ {
		for d := -2; d <= 2; d++ {
			if n := 1<<i + d; n <= greatest {
				out = append(out, n)
			}
		}
	}
	return append(out, greatest)
}

// everyText calls say with each text of at most longest of these bytes.
func everyText(letters string, longest int, say func(string)) {
	var grow func(string)
	grow = func(s string) {
		say(s)
		if len(s) < longest {
			for i := range len(letters) {
				grow(s + letters[i:i+1])
			}
		}
	}
	grow("")
}

func allBytes() string {
	var b strings.Builder
	for i := range 256 {
		b.WriteByte(byte(i))
	}
	return b.String()
}

func TestFixedBytes(t *testing.T) {
	for _, c := range []struct {
		n, width int
		want     string
	}{
		{0, 1, "\x00"},
		{1, 1, "\x01"},
		{255, 1, "\xff"},
		{256, 1, ""},
		{256, 2, "\x01\x00"},
		{65535, 2, "\xff\xff"},
		{65536, 2, ""},
		{0x010203, 3, "\x01\x02\x03"},
		{0x010203, 5, "\x00\x00\x01\x02\x03"},
		{0, 7, "\x00\x00\x00\x00\x00\x00\x00"},
		{0x01020304050607, 7, "\x01\x02\x03\x04\x05\x06\x07"},
		{1<<56 - 1, 7, "\xff\xff\xff\xff\xff\xff\xff"},
		{1 << 56, 7, ""},
		{math.MaxInt, 7, ""},
		{-1, 1, ""},
		{-1, 7, ""},
		{-256, 2, ""},
		{math.MinInt, 7, ""},
		{0, 0, ""},
		{1, 0, ""},
		{0, 8, ""},
		{1, 8, ""},
		{0, -1, ""},
		{0, 64, ""},
		{0, math.MaxInt, ""},
		{0, math.MinInt, ""},
	} {
		if got := impl.Fixed(c.n, c.width); got != c.want {
			t.Errorf("Fixed(%d, %d) = %q, want %q", c.n, c.width, got, c.want)
		}
	}
}

func TestFixedEdgeOfEachWidth(t *testing.T) {
	for width := 1; width <= 7; width++ {
		most := 1<<(8*width) - 1
		if got, want := impl.Fixed(most, width), strings.Repeat("\xff", width); got != want {
			t.Errorf("Fixed(%d, %d) = %q, want %q", most, width, got, want)
		}
		if got := impl.Fixed(most+1, width); got != "" {
			t.Errorf("Fixed(%d, %d) = %q, want nothing", most+1, width, got)
		}
	}
}

func TestReadFixedTakesWhatFixedMakes(t *testing.T) {
	for width := 1; width <= 7; width++ {
		for _, n := range numbersUpTo(1<<(8*width) - 1) {
			s := impl.Fixed(n, width)
			if len(s) != width {
				t.Fatalf("Fixed(%d, %d) = %q", n, width, s)
			}
			for _, tail := range tails {
				if got, ok := impl.ReadFixed(s+tail, width); got != n || !ok {
					t.Fatalf("ReadFixed(%q, %d) = %d, %v, want %d", s+tail, width, got, ok, n)
				}
			}
		}
	}
}

func TestReadFixedIsOfTheFirstBytes(t *testing.T) {
	everyText("\x00\x01\x7f\x80\xff", 4, func(s string) {
		for width := 1; width <= len(s); width++ {
			n, ok := impl.ReadFixed(s, width)
			if !ok || impl.Fixed(n, width) != s[:width] {
				t.Fatalf("ReadFixed(%q, %d) = %d, %v", s, width, n, ok)
			}
		}
	})
}

func TestReadFixedRefuses(t *testing.T) {
	for _, c := range []struct {
		s     string
		width int
	}{
		{"", 1},
		{"", 0},
		{"", -1},
		{"a", 2},
		{"abcdef", 7},
		{"abcdefgh", 0},
		{"abcdefgh", 8},
		{"abcdefgh", -1},
		{"abcdefgh", math.MaxInt},
		{"abcdefgh", math.MinInt},
	} {
		if n, ok := impl.ReadFixed(c.s, c.width); n != 0 || ok {
			t.Errorf("ReadFixed(%q, %d) = %d, %v, want 0, false", c.s, c.width, n, ok)
		}
	}
}

func TestVarBytes(t *testing.T) {
	if impl.MaxVar != 1<<49-1 {
		t.Errorf("MaxVar = %d", impl.MaxVar)
	}
	for _, c := range []struct {
		n    int
		want string
	}{
		{0, "\x00"},
		{1, "\x01"},
		{127, "\x7f"},
		{128, "\x80\x01"},
		{255, "\xff\x01"},
		{300, "\xac\x02"},
		{16383, "\xff\x7f"},
		{16384, "\x80\x80\x01"},
		{1 << 42, "\x80\x80\x80\x80\x80\x80\x01"},
		{impl.MaxVar, "\xff\xff\xff\xff\xff\xff\x7f"},
		{impl.MaxVar + 1, ""},
		{math.MaxInt, ""},
		{-1, ""},
		{math.MinInt, ""},
	} {
		if got := impl.Var(c.n); got != c.want {
			t.Errorf("Var(%d) = %q, want %q", c.n, got, c.want)
		}
	}
}

func TestReadVarTakesWhatVarMakes(t *testing.T) {
	for _, n := range numbersUpTo(impl.MaxVar) {
		s := impl.Var(n)
		for _, tail := range tails {
			if got, used := impl.ReadVar(s + tail); got != n || used != len(s) || used == 0 {
				t.Fatalf("ReadVar(%q) = %d, %d, want %d, %d", s+tail, got, used, n, len(s))
			}
		}
		for cut := range len(s) {
			if got, used := impl.ReadVar(s[:cut]); got != 0 || used != 0 {
				t.Fatalf("ReadVar(%q) = %d, %d, want 0, 0", s[:cut], got, used)
			}
		}
	}
}

func TestReadVarTakesNothingElse(t *testing.T) {
	check := func(s string) {
		n, used := impl.ReadVar(s)
		if used == 0 && n == 0 {
			return
		}
		if used < 1 || used > len(s) || impl.Var(n) != s[:used] {
			t.Fatalf("ReadVar(%q) = %d, %d", s, n, used)
		}
	}
	everyText(allBytes(), 2, check)
	everyText("\x00\x01\x7f\x80\x81\xff", 6, check)
	everyText("\x00\x7f\x80\xff", 9, check)
}

func TestReadVarRefuses(t *testing.T) {
	for _, s := range []string{
		"",
		"\x80",
		"\xff",
		"\x80\x80\x80\x80\x80\x80",
		"\x80\x00",
		"\x81\x00",
		"\xff\x00",
		"\x80\x80\x00",
		"\xff\xff\x00",
		"\x80\x00tail",
		"\xff\xff\xff\xff\xff\xff\x00",
		"\xff\xff\xff\xff\xff\xff\xff",
		"\xff\xff\xff\xff\xff\xff\xff\x01",
		"\x80\x80\x80\x80\x80\x80\x80\x01",
		"\x80\x80\x80\x80\x80\x80\x80\x80\x80\x01",
		strings.Repeat("\x80", 1000) + "\x01",
	} {
		if n, used := impl.ReadVar(s); n != 0 || used != 0 {
			t.Errorf("ReadVar(%q) = %d, %d, want 0, 0", s, n, used)
		}
	}
}

func TestReadVarOfNoughtAhead(t *testing.T) {
	if n, used := impl.ReadVar("\x00\x00"); n != 0 || used != 1 {
		t.Errorf("ReadVar of 0 and a byte = %d, %d, want 0, 1", n, used)
	}
}

func TestHexSigns(t *testing.T) {
	for _, c := range []struct{ s, want string }{
		{"", ""},
		{"\x00", "00"},
		{"\x0f", "0f"},
		{"\xf0", "f0"},
		{"a\xff", "61ff"},
		{"\x01\x23\x45\x67\x89\xab\xcd\xef", "0123456789abcdef"},
	} {
		if got := impl.Hex(c.s); got != c.want {
			t.Errorf("Hex(%q) = %q, want %q", c.s, got, c.want)
		}
		if got, ok := impl.Unhex(c.want); got != c.s || !ok {
			t.Errorf("Unhex(%q) = %q, %v, want %q", c.want, got, ok, c.s)
		}
	}
}

func TestUnhexTakesWhatHexMakes(t *testing.T) {
	everyText(allBytes(), 2, func(s string) {
		h := impl.Hex(s)
		if got, ok := impl.Unhex(h); len(h) != 2*len(s) || got != s || !ok {
			t.Fatalf("Unhex(%q) = %q, %v, want %q", h, got, ok, s)
		}
	})
	long := strings.Repeat(allBytes(), 5)
	if got, ok := impl.Unhex(impl.Hex(long)); got != long || !ok {
		t.Error("a long text is not read as it was")
	}
}

func TestUnhexTakesNothingElse(t *testing.T) {
	check := func(s string) {
		got, ok := impl.Unhex(s)
		if ok && impl.Hex(got) != s || !ok && got != "" {
			t.Fatalf("Unhex(%q) = %q, %v", s, got, ok)
		}
	}
	everyText(allBytes(), 2, check)
	everyText("09afAFg/:`", 5, check)
}

func TestUnhexRefuses(t *testing.T) {
	for _, s := range []string{
		"0", "f", "616", "61ff6",
		"6F", "F6", "AB", "61FF",
		"6g", "g6", "/0", "0:", "`0", "0@", "0G", " 6", "6 ", "0x61", "-1", "+1", "\x00\x00", "\xff\xff", "61\n0",
		"616161zz", "zz616161",
	} {
		if got, ok := impl.Unhex(s); got != "" || ok {
			t.Errorf("Unhex(%q) = %q, %v, want nothing, false", s, got, ok)
		}
	}
}

func TestDecDigits(t *testing.T) {
	for _, c := range []struct {
		n    int
		want string
	}{
		{0, "0"},
		{7, "7"},
		{10, "10"},
		{100, "100"},
		{1020, "1020"},
		{-1, "-1"},
		{-10, "-10"},
		{-120, "-120"},
		{999999999, "999999999"},
		{1000000000, "1000000000"},
		{math.MaxInt, "9223372036854775807"},
		{math.MinInt, "-9223372036854775808"},
		{math.MinInt + 1, "-9223372036854775807"},
	} {
		if got := impl.Dec(c.n); got != c.want {
			t.Errorf("Dec(%d) = %q, want %q", c.n, got, c.want)
		}
	}
}

func TestReadDecTakesWhatDecMakes(t *testing.T) {
	for _, n := range numbersUpTo(999999999) {
		for _, n := range []int{n, -n} {
			if got, ok := impl.ReadDec(impl.Dec(n)); got != n || !ok {
				t.Fatalf("ReadDec(%q) = %d, %v, want %d", impl.Dec(n), got, ok, n)
			}
		}
	}
}

func TestReadDecTakesNothingElse(t *testing.T) {
	check := func(s string) {
		n, ok := impl.ReadDec(s)
		if ok && impl.Dec(n) != s || !ok && n != 0 {
			t.Fatalf("ReadDec(%q) = %d, %v", s, n, ok)
		}
	}
	everyText(allBytes(), 2, check)
	everyText("-+019 a/:", 5, check)
	everyText("-09", 12, check)
}

func TestReadDecRefuses(t *testing.T) {
	for _, s := range []string{
		"", "-", "+", "--", "--1", "-+1", "+1", "+0",
		"-0", "00", "01", "-01", "-00", "000000000", "0000000001", "012345678",
		"1000000000", "-1000000000", "9999999999", "-9999999999", "9223372036854775808", strings.Repeat("9", 1000),
		" 1", "1 ", "1\n", "1-", "1a", "a1", "a", "f", "0x1", "1.0", "1_0", "/", ":", "1/", "1:", "\x00", "\xb1", "1-2",
	} {
		if n, ok := impl.ReadDec(s); n != 0 || ok {
			t.Errorf("ReadDec(%q) = %d, %v, want 0, false", s, n, ok)
		}
	}
}

func TestReadDecOfNineDigits(t *testing.T) {
	for s, want := range map[string]int{
		"0":          0,
		"-1":         -1,
		"100000000":  100000000,
		"-100000000": -100000000,
		"999999999":  999999999,
		"-999999999": -999999999,
	} {
		if n, ok := impl.ReadDec(s); n != want || !ok {
			t.Errorf("ReadDec(%q) = %d, %v, want %d, true", s, n, ok, want)
		}
	}
}
