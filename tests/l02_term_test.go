package tests

import (
	"math"
	"slices"
	"strings"
	"testing"

	"loop.example/g00769/impl"
)

// A term as it is told by plain words: what the tests hold the program's answers against.
type plainTerm struct {
	kind  byte
	n     int
	data  string
	parts []string
	depth int
}

// plainRead is the term with which s begins, and how many bytes it has; none where there is no such term of whatever depth.
func plainRead(s string) (plainTerm, int, bool) {
	none := plainTerm{}
	if s == "" {
		return none, 0, false
	}
	n, used := impl.ReadVar(s[1:])
	if used == 0 {
		return none, 0, false
	}
	at := 1 + used
	t := plainTerm{kind: s[0], n: n, depth: 1}
	wanted := 0
	switch s[0] {
	case 'a':
		if n > 40 || len(s) < at+n {
			return none, 0, false
		}
		t.data = s[at : at+n]
		return t, at + n, true
	case 'k':
		return t, at, n >= 1 && n <= 1000000
	case 'l':
		if n > 12 {
			return none, 0, false
		}
		wanted = n
	case 's':
		if n < 1 || n > 1000000 {
			return none, 0, false
		}
		wanted = 1
	default:
		return none, 0, false
	}
	for range wanted {
		part, size, ok := plainRead(s[at:])
		if !ok {
			return none, 0, false
		}
		t.parts = append(t.parts, s[at:at+size])
		t.depth = max(t.depth, part.depth+1)
		at += size
	}
	return t, at, true
}

func plainTermOf(s string) (plainTerm, bool) {
	if len(s) > 900 {
		return plainTerm{}, false
	}
	t, size, ok := plainRead(s)
	if !ok || size != len(s) || t.depth > 8 {
		return plainTerm{}, false
	}
	return t, true
}

// checkReaders holds what each reader tells of a text against the plain words.
func checkReaders(t *testing.T, s string) {
	t.Helper()
	want, isTerm := plainTermOf(s)
	is := func(kind byte) bool { return isTerm && want.kind == kind }
	kinds := 0
	if got := impl.TermOk(s); got != isTerm {
		t.Fatalf("TermOk(%q) = %v", s, got)
	}
	if got, ok := impl.ReadAtom(s); ok != is('a') || ok && got != want.data || !ok && got != "" {
		t.Fatalf("ReadAtom(%q) = %q, %v", s, got, ok)
	} else if ok {
		kinds++
	}
	if got, ok := impl.ReadKey(s); ok != is('k') || ok && got != want.n || !ok && got != 0 {
		t.Fatalf("ReadKey(%q) = %d, %v", s, got, ok)
	} else if ok {
		kinds++
	}
	if got, ok := impl.Parts(s); ok != is('l') || ok && !slices.Equal(got, want.parts) || !ok && len(got) != 0 {
		t.Fatalf("Parts(%q) = %q, %v", s, got, ok)
	} else if ok {
		kinds++
	}
	for _, k := range []int{want.n, want.n - 1, want.n + 1, 0, 1, -1, impl.MaxKey, impl.MaxKey + 1} {
		fits := is('s') && k == want.n
		if got, ok := impl.Open(s, k); ok != fits || ok && got != want.parts[0] || !ok && got != "" {
			t.Fatalf("Open(%q, %d) = %q, %v", s, k, got, ok)
		}
	}
	if _, ok := impl.Open(s, want.n); ok {
		kinds++
	}
	if kinds > 1 || (kinds == 1) != isTerm {
		t.Fatalf("%q is of %d kinds", s, kinds)
	}
}

func sealedTimes(t string, times int) string {
	return strings.Repeat("s\x01", times) + t
}

func listedTimes(t string, times int) string {
	return strings.Repeat("l\x01", times) + t
}

// A list of just so many bytes (some 900): two lists of twelve atoms, the last of which fills it up.
func listOfBytes(bytes int) string {
	atom := "a\x24" + strings.Repeat("x", 36)
	ahead := "l\x02l\x0c" + strings.Repeat(atom, 12) + "l\x0c" + strings.Repeat(atom, 11)
	left := bytes - len(ahead) - 2
	return ahead + "a" + impl.Var(left) + strings.Repeat("z", left)
}

func TestTermLimits(t *testing.T) {
	if impl.MaxTerm != 900 || impl.MaxDepth != 8 || impl.MaxParts != 12 || impl.MaxAtom != 40 || impl.MaxKey != 1000000 {
		t.Error("a limit is not as the document names it")
	}
}

func TestReadersOfEveryShortText(t *testing.T) {
	everyText(allBytes(), 2, func(s string) { checkReaders(t, s) })
	everyText("akls\x00\x01\x02\x80", 6, func(s string) { checkReaders(t, s) })
	everyText("ls\x00\x01", 8, func(s string) { checkReaders(t, s) })
}

func TestReadersOfTermsThatAreChanged(t *testing.T) {
	terms := []string{
		impl.Atom("data"), impl.Atom(""), impl.Atom(allBytes()[:40]), impl.Atom("k\x01"), impl.Atom("a\x00"),
		impl.KeyTerm(1), impl.KeyTerm(300), impl.KeyTerm(impl.MaxKey),
		impl.List(nil), impl.List([]string{"a\x00", "k\x01", "l\x00", "s\x01k\x02"}),
		impl.Seal(300, impl.List([]string{impl.Seal(7, "a\x02hi"), "k\x09"})),
		sealedTimes("a\x00", 7), listedTimes("k\x05", 7), sealedTimes("l\x00", 7), listedTimes(sealedTimes("a\x00", 4), 3),
	}
	for _, s := range terms {
		if s == "" {
			t.Fatal("a term was not made")
		}
		checkReaders(t, s)
		for i := range s {
			checkReaders(t, s[:i])
			checkReaders(t, s[i:])
			for _, b := range "\x00\x01\x02\x7fakls" {
				checkReaders(t, s[:i]+string(b)+s[i+1:])
				checkReaders(t, s[:i]+string(b)+s[i:])
			}
			checkReaders(t, s[:i]+"\x80"+s[i+1:])
			checkReaders(t, s[:i]+"\xff"+s[i:])
		}
		for _, tail := range tails {
			checkReaders(t, s+tail)
			checkReaders(t, tail+s)
		}
		for _, other := range terms {
			checkReaders(t, s+other)
			checkReaders(t, "l\x02"+s+other)
			checkReaders(t, "s\x05"+s)
		}
	}
}

func TestNoTerms(t *testing.T) {
	for _, s := range []string{
		"",
		"a", "k", "l", "s", "x",
		"x\x00", "x\x01a\x00", "A\x00", "\x00\x00", "b\x00", "\xff\x00",
		"a\x80\x00", "a\x81\x00x", "k\x81\x00", "l\x80\x00", "l\x81\x00a\x00", "s\x81\x00a\x00",
		"a\x80", "k\x80", "l\x80", "s\x80", "k\x80\x80", "k\xff\xff\xff\xff\xff\xff\xff\x01",
		"a\x01", "a\x02h", "a\x28" + strings.Repeat("x", 39),
		"a\x29" + strings.Repeat("x", 41), "a\x29",
		"a\x00x", "a\x01hi", "k\x01\x00", "k\x01k\x01", "l\x00a\x00", "l\x01a\x00a\x00", "s\x05a\x00x", "s\x05a\x00a\x00",
		"k\x00", "k\xc1\x84\x3d", "s\x00a\x00", "s\xc1\x84\x3da\x00", "s\x05",
		"l\x01", "l\x02a\x00", "l\x01x", "l\x01a", "l\x02a\x00k\x00", "l\x02x\x00a\x00", "l\x01l\x01",
		"l\x0d" + strings.Repeat("a\x00", 13), "l\x01l\x0d" + strings.Repeat("a\x00", 13),
		sealedTimes("a\x00", 8), sealedTimes("k\x01", 8), sealedTimes("l\x00", 8), listedTimes("a\x00", 8), listedTimes("l\x00", 8),
		sealedTimes("a\x00", 899/2), listedTimes("l\x00", 899/2), sealedTimes("a\x00", 100000), listedTimes("", 100000),
		"l\x02a\x00" + sealedTimes("a\x00", 7), "l\x02" + sealedTimes("a\x00", 7) + "a\x00",
		listOfBytes(901),
		strings.Repeat("a\x00", 2),
	} {
		if impl.TermOk(s) {
			t.Errorf("TermOk(%q)", s)
		}
		checkReaders(t, s)
	}
}

func TestDepthOfTerms(t *testing.T) {
	for _, core := range []string{"a\x00", "a\x01x", "k\x01", "l\x00"} {
		deepest := []string{
			sealedTimes(core, 7),
			listedTimes(core, 7),
			listedTimes(sealedTimes(core, 3), 4),
			"l\x03a\x00" + sealedTimes(core, 6) + "k\x01",
			"l\x02" + listedTimes(core, 6) + listedTimes(core, 2),
		}
		for _, s := range deepest {
			if !impl.TermOk(s) {
				t.Errorf("TermOk(%q) = false: its depth is MaxDepth", s)
			}
			if got := impl.Seal(1, s); got != "" {
				t.Errorf("Seal(1, %q) = %q", s, got)
			}
			if got := impl.List([]string{s}); got != "" {
				t.Errorf("List of %q = %q", s, got)
			}
			if got := impl.List([]string{"a\x00", s, "k\x01"}); got != "" {
				t.Errorf("List of more and %q = %q", s, got)
			}
			for _, deeper := range []string{"s\x01" + s, "l\x01" + s, "l\x02" + s + "a\x00", "l\x02a\x00" + s} {
				if impl.TermOk(deeper) {
					t.Errorf("TermOk(%q) = true: it is too deep by one", deeper)
				}
				checkReaders(t, deeper)
			}
			checkReaders(t, s)
		}
		made := core
		for range 7 {
			made = impl.Seal(1, made)
		}
		if made != sealedTimes(core, 7) {
			t.Errorf("sealed seven times: %q", made)
		}
		for depth := 7; depth > 0; depth-- {
			inside, ok := impl.Open(made, 1)
			if !ok || inside != sealedTimes(core, depth-1) {
				t.Fatalf("Open(%q, 1) = %q, %v", made, inside, ok)
			}
			made = inside
		}
	}
	if got := impl.List([]string{sealedTimes("a\x00", 6), "a\x00"}); got != "l\x02"+sealedTimes("a\x00", 6)+"a\x00" {
		t.Errorf("a list of depth MaxDepth: %q", got)
	}
}

func TestBytesOfTerms(t *testing.T) {
	most := listOfBytes(900)
	if len(most) != 900 || !impl.TermOk(most) {
		t.Fatalf("a term of %d bytes is none", len(most))
	}
	parts, ok := impl.Parts(most)
	if !ok || len(parts) != 2 || impl.List(parts) != most {
		t.Errorf("a list of MaxTerm bytes is not made again of its parts")
	}
	over := listOfBytes(901)
	outer, _, isOne := plainRead(over)
	if len(over) != 901 || !isOne {
		t.Fatal("the text with one byte more is not what it should be")
	}
	if impl.TermOk(over) {
		t.Error("a term of MaxTerm and one bytes")
	}
	if got := impl.List(outer.parts); got != "" {
		t.Errorf("List of MaxTerm and one bytes: %d bytes", len(got))
	}
	for _, c := range []struct{ bytes, key, want int }{
		{898, 1, 900}, {899, 1, 0}, {900, 1, 0}, {897, 128, 900}, {898, 128, 0}, {896, impl.MaxKey, 900}, {897, impl.MaxKey, 0},
	} {
		inside := listOfBytes(c.bytes)
		got := impl.Seal(c.key, inside)
		if len(got) != c.want {
			t.Errorf("Seal(%d, a list of %d bytes) has %d bytes, want %d", c.key, c.bytes, len(got), c.want)
		}
		if opened, ok := impl.Open(got, c.key); c.want > 0 && (!ok || opened != inside) {
			t.Errorf("a sealed list of %d bytes does not open", c.bytes)
		}
	}
	if got := impl.List([]string{listOfBytes(898)}); len(got) != 900 {
		t.Errorf("List of one with 898 bytes has %d", len(got))
	}
	if got := impl.List([]string{listOfBytes(899)}); got != "" {
		t.Errorf("List of one with 899 bytes has %d", len(got))
	}
}

func TestAtoms(t *testing.T) {
	for _, data := range []string{"", "x", "hi", "\x00", "a\x00", "k\x01", "\xff\xfe", strings.Repeat("x", 39), strings.Repeat("\xff", 40)} {
		s := impl.Atom(data)
		if want := "a" + string(rune(len(data))) + data; s != want {
			t.Errorf("Atom(%q) = %q, want %q", data, s, want)
		}
		if got, ok := impl.ReadAtom(s); got != data || !ok {
			t.Errorf("ReadAtom(%q) = %q, %v", s, got, ok)
		}
		checkReaders(t, s)
	}
	for _, size := range []int{41, 42, 127, 128, 168, 900, 100000} {
		if got := impl.Atom(strings.Repeat("x", size)); got != "" {
			t.Errorf("Atom of %d bytes = %q", size, got)
		}
	}
}

func TestKeyTerms(t *testing.T) {
	for _, c := range []struct {
		k    int
		want string
	}{
		{1, "k\x01"},
		{127, "k\x7f"},
		{128, "k\x80\x01"},
		{300, "k\xac\x02"},
		{999999, "k\xbf\x84\x3d"},
		{impl.MaxKey, "k\xc0\x84\x3d"},
		{impl.MaxKey + 1, ""},
		{0, ""},
		{-1, ""},
		{impl.MaxVar, ""},
		{impl.MaxVar + 1, ""},
		{math.MaxInt, ""},
		{math.MinInt, ""},
	} {
		s := impl.KeyTerm(c.k)
		if s != c.want {
			t.Errorf("KeyTerm(%d) = %q, want %q", c.k, s, c.want)
		}
		got, ok := impl.ReadKey(s)
		if c.want != "" && (got != c.k || !ok) || c.want == "" && (got != 0 || ok) {
			t.Errorf("ReadKey(%q) = %d, %v", s, got, ok)
		}
	}
	for k := 1; k <= impl.MaxKey; k += 1 + k/50 {
		if got, ok := impl.ReadKey(impl.KeyTerm(k)); got != k || !ok {
			t.Fatalf("ReadKey of KeyTerm(%d) = %d, %v", k, got, ok)
		}
	}
}

// Some terms of each kind, none of them deep.
func someTerms() []string {
	return []string{"a\x00", "a\x02hi", "a\x03k\x01x", "k\x01", "k\xac\x02", "l\x00", "l\x02a\x00k\x01", "s\x05k\x01", "s\xac\x02l\x01a\x01x"}
}

func TestPartsTakesWhatListMakes(t *testing.T) {
	terms := someTerms()
	check := func(parts []string) {
		s := impl.List(parts)
		if want := "l" + string(rune(len(parts))) + strings.Join(parts, ""); s != want {
			t.Fatalf("List(%q) = %q, want %q", parts, s, want)
		}
		if got, ok := impl.Parts(s); !ok || !slices.Equal(got, parts) {
			t.Fatalf("Parts(%q) = %q, %v, want %q", s, got, ok, parts)
		}
	}
	check(nil)
	check([]string{})
	for _, x := range terms {
		check([]string{x})
		check(slices.Repeat([]string{x}, 12))
		for _, y := range terms {
			check([]string{x, y})
			for _, z := range terms {
				check([]string{x, y, z})
			}
		}
	}
}

func TestListRefuses(t *testing.T) {
	for _, parts := range [][]string{
		{""},
		{"x"},
		{"a\x00", ""},
		{"", "a\x00"},
		{"a\x00", "k\x00"},
		{"k\x00", "a\x00"},
		{"a\x00k\x01"},
		{"a\x00k\x01", ""},
		// Terms only when they are put together.
		{"a\x01", "xa\x00"},
		{"a", "\x00a\x00"},
		{"l\x01", "a\x00a\x00"},
		{"a\x00k", "\x01"},
		slices.Repeat([]string{"a\x00"}, 13),
		slices.Repeat([]string{"a\x00"}, 140),
		slices.Repeat([]string{""}, 13),
		slices.Repeat([]string{"a\x00"}, 100000),
	} {
		if got := impl.List(parts); got != "" {
			t.Errorf("List(%q) = %q", parts, got)
		}
	}
}

func TestOpenTakesWhatSealMakes(t *testing.T) {
	keys := []int{1, 2, 127, 128, 300, 16384, impl.MaxKey - 1, impl.MaxKey}
	for _, x := range someTerms() {
		for _, k := range keys {
			s := impl.Seal(k, x)
			if want := "s" + impl.Var(k) + x; s != want {
				t.Fatalf("Seal(%d, %q) = %q, want %q", k, x, s, want)
			}
			if got, ok := impl.Open(s, k); got != x || !ok {
				t.Errorf("Open(%q, %d) = %q, %v", s, k, got, ok)
			}
			others := append([]int{0, -1, -k, k + 1, k - 1, impl.MaxKey + 1, math.MaxInt, math.MinInt, k + 1<<32}, keys...)
			for _, other := range others {
				if got, ok := impl.Open(s, other); other != k && (got != "" || ok) {
					t.Errorf("Open(%q, %d) = %q, %v", s, other, got, ok)
				}
			}
		}
	}
}

func TestSealRefuses(t *testing.T) {
	for _, c := range []struct {
		k int
		t string
	}{
		{0, "a\x00"}, {-1, "a\x00"}, {impl.MaxKey + 1, "a\x00"}, {impl.MaxVar, "a\x00"}, {impl.MaxVar + 1, "a\x00"}, {math.MaxInt, "a\x00"}, {math.MinInt, "a\x00"},
		// It would be sealed if the number's bytes were left out.
		{-1, "\x05a\x00"}, {impl.MaxVar + 1, "\x05a\x00"}, {math.MinInt, "\x01a\x00"},
		{5, ""}, {5, "x"}, {5, "k\x00"}, {5, "a\x00a\x00"}, {5, "a"}, {5, "\x05a\x00"},
	} {
		if got := impl.Seal(c.k, c.t); got != "" {
			t.Errorf("Seal(%d, %q) = %q", c.k, c.t, got)
		}
	}
}

func TestOpenOfWhatIsNotSealed(t *testing.T) {
	for _, c := range []struct {
		s string
		k int
	}{
		{"s\x00a\x00", 0},
		{"s\xc1\x84\x3da\x00", impl.MaxKey + 1},
		{"k\x05", 5},
		{"a\x05hello", 5},
		{"l\x01a\x00", 1},
		{"x\x05a\x00", 5},
		{"s\x05", 5},
		{"s\x05a\x00x", 5},
		{"", 0},
	} {
		if got, ok := impl.Open(c.s, c.k); got != "" || ok {
			t.Errorf("Open(%q, %d) = %q, %v", c.s, c.k, got, ok)
		}
	}
}

func TestNumIsTheAtomOfVar(t *testing.T) {
	for _, n := range numbersUpTo(impl.MaxVar) {
		s := impl.Num(n)
		if v := impl.Var(n); s != "a"+string(rune(len(v)))+v {
			t.Fatalf("Num(%d) = %q", n, s)
		}
		if got, ok := impl.ReadNum(s); got != n || !ok {
			t.Fatalf("ReadNum(%q) = %d, %v, want %d", s, got, ok, n)
		}
	}
	for _, n := range []int{-1, math.MinInt, impl.MaxVar + 1, math.MaxInt} {
		if got := impl.Num(n); got != "" {
			t.Errorf("Num(%d) = %q", n, got)
		}
	}
}

func TestReadNumTakesNothingElse(t *testing.T) {
	check := func(s string) {
		n, ok := impl.ReadNum(s)
		if ok && impl.Num(n) != s || !ok && n != 0 {
			t.Fatalf("ReadNum(%q) = %d, %v", s, n, ok)
		}
	}
	everyText(allBytes(), 2, check)
	everyText("ak\x00\x01\x02\x80", 6, check)
	for _, s := range []string{
		"", "a", "a\x00", "a\x01\x80", "a\x02\x80\x00", "a\x02\x07\x07", "a\x01\x07\x07", "a\x02\x07",
		"a\x07\xff\xff\xff\xff\xff\xff\xff", "a\x08\xff\xff\xff\xff\xff\xff\xff\x01", "a\x03\xac\x02\x00",
		"k\x07", "l\x01a\x01\x07", "s\x07a\x01\x07", "l\x00", "x\x01\x07", "\x07",
	} {
		if n, ok := impl.ReadNum(s); n != 0 || ok {
			t.Errorf("ReadNum(%q) = %d, %v, want 0, false", s, n, ok)
		}
	}
}

func TestReadNumsTakesWhatNumsMakes(t *testing.T) {
	for _, l := range [][]int{
		nil,
		{},
		{0},
		{impl.MaxVar},
		{7, 300},
		{300, 7},
		{0, 0, 0},
		{1, 2, 3, 4, 5, 6, 7, 8, 9, 10, 11, 12},
		slices.Repeat([]int{impl.MaxVar}, 12),
	} {
		s := impl.Nums(l)
		var parts []string
		for _, n := range l {
			parts = append(parts, impl.Num(n))
		}
		if s == "" || s != impl.List(parts) {
			t.Errorf("Nums(%v) = %q", l, s)
		}
		if got, ok := impl.ReadNums(s); !ok || !slices.Equal(got, l) {
			t.Errorf("ReadNums(%q) = %v, %v, want %v", s, got, ok, l)
		}
	}
}

func TestNumsRefuses(t *testing.T) {
	for _, l := range [][]int{
		{-1}, {1, -1}, {-1, 1}, {impl.MaxVar + 1}, {1, 2, math.MaxInt}, {math.MinInt},
		make([]int, 13), make([]int, 100000),
	} {
		if got := impl.Nums(l); got != "" {
			t.Errorf("Nums(%v) = %q", l, got)
		}
	}
}

func TestReadNumsTakesNothingElse(t *testing.T) {
	check := func(s string) {
		l, ok := impl.ReadNums(s)
		if ok && impl.Nums(l) != s || !ok && len(l) != 0 {
			t.Fatalf("ReadNums(%q) = %v, %v", s, l, ok)
		}
	}
	everyText("la\x00\x01\x02", 8, check)
	for _, s := range []string{
		"", "l", "a\x01\x07", "k\x07", "s\x07l\x01a\x01\x07", "s\x07l\x00",
		"l\x01a\x00", "l\x01k\x07", "l\x01l\x00", "l\x01l\x01a\x01\x07", "l\x02a\x01\x07k\x01", "l\x02a\x00a\x01\x07", "l\x02a\x01\x07a\x02\x07\x07",
		"l\x01a\x02\x80\x00", "l\x02a\x01\x07", "l\x01a\x01\x07a\x01\x07", "l\x0d" + strings.Repeat("a\x01\x07", 13),
	} {
		if l, ok := impl.ReadNums(s); len(l) != 0 || ok {
			t.Errorf("ReadNums(%q) = %v, %v, want nothing, false", s, l, ok)
		}
	}
}

func TestTermsLeaveWhatTheyAreHanded(t *testing.T) {
	parts := []string{"a\x00", "k\x01", "spare", "room"}
	impl.List(parts[:2])
	impl.List(parts[:3])
	if !slices.Equal(parts, []string{"a\x00", "k\x01", "spare", "room"}) {
		t.Errorf("List wrote into its parts: %q", parts)
	}
	numbers := []int{7, 300, -5, 6}
	impl.Nums(numbers[:2])
	impl.Nums(numbers[:3])
	if !slices.Equal(numbers, []int{7, 300, -5, 6}) {
		t.Errorf("Nums wrote into its numbers: %v", numbers)
	}
}

func TestTermsAnswerNewMemory(t *testing.T) {
	parts := []string{"a\x00", "k\x01"}
	s := impl.List(parts)
	first, _ := impl.Parts(s)
	first[0] = "other"
	first = append(first, "more")
	if second, ok := impl.Parts(s); !ok || !slices.Equal(second, []string{"a\x00", "k\x01"}) || !slices.Equal(parts, second) {
		t.Errorf("Parts shares what it answers: %q, %q, %q", first, second, parts)
	}
	numbers := []int{7, 300}
	s = impl.Nums(numbers)
	read, _ := impl.ReadNums(s)
	read[0] = 9
	if again, ok := impl.ReadNums(s); !ok || !slices.Equal(again, []int{7, 300}) || !slices.Equal(numbers, again) {
		t.Errorf("ReadNums shares what it answers: %v, %v, %v", read, again, numbers)
	}
}
