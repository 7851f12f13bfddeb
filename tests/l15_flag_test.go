package tests

import (
	"math"
	"math/rand"
	"slices"
	"strings"
	"testing"

	"loop.example/g00769/impl"
)

// Flags by plain words, each by its place (0 is FlForward, 7 is FlProxied): what the tests hold the program's answers against.

const plainLetters = "fprdiIFP"

func plainSum(set map[int]bool) int {
	sum, power := 0, 1
	for place := range 8 {
		if set[place] {
			sum += power
		}
		power *= 2
	}
	return sum
}

// plainMayBe says of a parent whether something of this kind may be made of it.
func plainMayBe(parent map[int]bool, kind int) bool {
	invalid := parent[4]
	switch kind {
	case 1:
		return !invalid
	case 2:
		return !invalid && parent[0]
	case 3:
		return !invalid && parent[1]
	case 4:
		return !invalid && parent[2]
	case 5:
		return !invalid && parent[3]
	case 6:
		return invalid
	}
	return false
}

func plainDerive(parent, kind, want int) (int, bool) {
	p, ok1 := plainSet(parent, 8)
	w, ok2 := plainSet(want, 8)
	if !ok1 || !ok2 || w[4] || w[5] || w[6] || w[7] || !plainMayBe(p, kind) {
		return 0, false
	}
	made := map[int]bool{}
	for place := range 4 {
		made[place] = p[place] && (w[place] || kind == 4 || kind == 6)
	}
	made[4] = kind == 5
	made[6] = p[6] || kind == 2
	made[7] = p[7] || kind == 3
	return plainSum(made), true
}

func plainBelow(a, b int) bool {
	x, ok1 := plainSet(a, 8)
	y, ok2 := plainSet(b, 8)
	if !ok1 || !ok2 {
		return false
	}
	for place := range 4 {
		if x[place] && !y[place] {
			return false
		}
	}
	return true
}

func plainShowFlags(f int) string {
	set, ok := plainSet(f, 8)
	if !ok {
		return ""
	}
	shown := []byte{}
	for place := range 8 {
		if set[place] {
			shown = append(shown, plainLetters[place])
		}
	}
	if len(shown) == 0 {
		return "-"
	}
	return string(shown)
}

// plainTexts has of each text that is shown its flags.
func plainTexts() map[string]int {
	texts := map[string]int{}
	for f := range 256 {
		texts[plainShowFlags(f)] = f
	}
	return texts
}

// Numbers that are no sum of the eight; the low bits of some of them are one.
func noSums() []int {
	return []int{-1, -2, -15, -16, -255, -256, -257, 256, 257, 256 + 15, 256 + 16, 511, 512, 1000,
		1 << 31, 1<<31 + 15, 1 << 32, 1<<32 + 15, 1<<32 + 31, 1 << 62, 1<<62 + 15,
		math.MaxInt, math.MaxInt - 255, math.MaxInt - 240, math.MinInt, math.MinInt + 1, math.MinInt + 15, math.MinInt + 31, math.MinInt + 255}
}

// Kinds that are none.
func noKinds() []int {
	return []int{0, 7, 8, 9, 16, -1, -2, -6, 256 + 1, 256 + 6, 1<<32 + 1, 1<<32 + 6, math.MaxInt, math.MinInt, math.MinInt + 1, math.MinInt + 6}
}

func checkDerive(t *testing.T, what string, parent, kind, want, wantFlags int, wantOk bool) {
	t.Helper()
	if f, ok := impl.Derive(parent, kind, want); f != wantFlags || ok != wantOk {
		t.Errorf("%s: Derive(%d, %d, %d) = %d, %v, want %d, %v", what, parent, kind, want, f, ok, wantFlags, wantOk)
	}
}

func checkReadFlags(t *testing.T, s string, want int, wantOk bool) {
	t.Helper()
	if f, ok := impl.ReadFlags(s); f != want || ok != wantOk {
		t.Errorf("ReadFlags(%q) = %d, %v, want %d, %v", s, f, ok, want, wantOk)
	}
}

func TestFlagNumbers(t *testing.T) {
	flags := []int{impl.FlForward, impl.FlProxy, impl.FlRenew, impl.FlPostdate, impl.FlInvalid, impl.FlInitial, impl.FlForwarded, impl.FlProxied}
	if !slices.Equal(flags, []int{1, 2, 4, 8, 16, 32, 64, 128}) {
		t.Error("flags", flags)
	}
	kinds := []int{impl.KiPlain, impl.KiForward, impl.KiProxy, impl.KiRenew, impl.KiPostdate, impl.KiValidate}
	if !slices.Equal(kinds, []int{1, 2, 3, 4, 5, 6}) {
		t.Error("kinds", kinds)
	}
}

func TestFlagsOk(t *testing.T) {
	for n := -1000; n <= 1000; n++ {
		if impl.FlagsOk(n) != (0 <= n && n <= 255) {
			t.Errorf("FlagsOk(%d) = %v", n, impl.FlagsOk(n))
		}
	}
	for _, n := range noSums() {
		if impl.FlagsOk(n) {
			t.Errorf("FlagsOk(%d) = true", n)
		}
	}
}

func TestDerive(t *testing.T) {
	for _, c := range []struct {
		what               string
		parent, kind, want int
		flags              int
		ok                 bool
	}{
		{"plain, all that is there", 15, impl.KiPlain, 15, 15, true},
		{"plain, some of it", 15, impl.KiPlain, 6, 6, true},
		{"plain, nothing of it", 15, impl.KiPlain, 0, 0, true},
		{"plain, of nothing", 0, impl.KiPlain, 15, 0, true},
		{"plain, of nothing, nothing", 0, impl.KiPlain, 0, 0, true},
		{"plain, more than there is", 5, impl.KiPlain, 15, 5, true},
		{"plain, what is not there", 5, impl.KiPlain, 10, 0, true},
		{"plain, some of it and what is not there", 12, impl.KiPlain, 6, 4, true},
		{"plain, of an initial one", 32 + 15, impl.KiPlain, 15, 15, true},
		{"plain, of a forwarded one", 64 + 3, impl.KiPlain, 1, 64 + 1, true},
		{"plain, of a proxied one", 128 + 3, impl.KiPlain, 2, 128 + 2, true},
		{"plain, of one that is not yet valid", 16 + 15, impl.KiPlain, 15, 0, false},
		{"forward", 15, impl.KiForward, 15, 64 + 15, true},
		{"forward, that may not be forwarded again", 15, impl.KiForward, 0, 64, true},
		{"forward, with nothing else there", 1, impl.KiForward, 1, 64 + 1, true},
		{"forward, with all but its flag", 14, impl.KiForward, 15, 0, false},
		{"forward, wanted but not there", 0, impl.KiForward, 1, 0, false},
		{"forward, of a forwarded one without its flag", 64, impl.KiForward, 0, 0, false},
		{"forward again", 64 + 1, impl.KiForward, 0, 64, true},
		{"forward a proxied one", 128 + 1, impl.KiForward, 0, 128 + 64, true},
		{"forward one that is not yet valid", 16 + 1, impl.KiForward, 1, 0, false},
		{"proxy", 15, impl.KiProxy, 15, 128 + 15, true},
		{"proxy, that may not be a proxy again", 15, impl.KiProxy, 0, 128, true},
		{"proxy, with all but its flag", 13, impl.KiProxy, 15, 0, false},
		{"proxy, of a proxied one without its flag", 128, impl.KiProxy, 0, 0, false},
		{"proxy of a forwarded one", 64 + 2, impl.KiProxy, 0, 128 + 64, true},
		{"proxy of one that is not yet valid", 16 + 2, impl.KiProxy, 2, 0, false},
		{"renew, with nothing wanted", 15, impl.KiRenew, 0, 15, true},
		{"renew, with all wanted", 4, impl.KiRenew, 15, 4, true},
		{"renew, with other things wanted", 5, impl.KiRenew, 2, 5, true},
		{"renew, with all but its flag", 11, impl.KiRenew, 15, 0, false},
		{"renew an initial, forwarded, proxied one", 32 + 64 + 128 + 4, impl.KiRenew, 0, 64 + 128 + 4, true},
		{"renew one that is not yet valid", 16 + 4, impl.KiRenew, 4, 0, false},
		{"postdate", 15, impl.KiPostdate, 15, 16 + 15, true},
		{"postdate, with nothing wanted", 8, impl.KiPostdate, 0, 16, true},
		{"postdate, with all but its flag", 7, impl.KiPostdate, 15, 0, false},
		{"postdate a forwarded, proxied one", 64 + 128 + 8, impl.KiPostdate, 8, 64 + 128 + 16 + 8, true},
		{"postdate one that is not yet valid", 16 + 8, impl.KiPostdate, 8, 0, false},
		{"validate", 16 + 15, impl.KiValidate, 15, 15, true},
		{"validate, with nothing wanted", 16 + 15, impl.KiValidate, 0, 15, true},
		{"validate, with more wanted", 16 + 8, impl.KiValidate, 15, 8, true},
		{"validate, with nothing else there", 16, impl.KiValidate, 0, 0, true},
		{"validate an initial, forwarded, proxied one", 255, impl.KiValidate, 0, 64 + 128 + 15, true},
		{"validate one that is valid", 255 - 16, impl.KiValidate, 15, 0, false},
		{"validate one without flags", 0, impl.KiValidate, 0, 0, false},
	} {
		checkDerive(t, c.what, c.parent, c.kind, c.want, c.flags, c.ok)
	}
}

// Each of the numbers alone is wrong; with the other two something could be made by every kind.
func TestDeriveOfNumbersThatAreNoSums(t *testing.T) {
	for kind := 1; kind <= 6; kind++ {
		good := 15
		if kind == 6 {
			good = 31
		}
		if _, ok := impl.Derive(good, kind, 15); !ok {
			t.Errorf("Derive(%d, %d, 15) says false", good, kind)
		}
		for _, n := range noSums() {
			checkDerive(t, "a parent that is no sum", n, kind, 15, 0, false)
			checkDerive(t, "a want that is no sum", good, kind, n, 0, false)
			checkDerive(t, "neither is a sum", n, kind, n, 0, false)
		}
	}
	for _, kind := range noKinds() {
		for _, parent := range []int{0, 15, 16, 31, 239, 255} {
			for _, want := range []int{0, 1, 15} {
				checkDerive(t, "a kind that is none", parent, kind, want, 0, false)
			}
		}
		for _, n := range noSums() {
			checkDerive(t, "a kind that is none, a parent that is no sum", n, kind, 15, 0, false)
			checkDerive(t, "a kind that is none, a want that is no sum", 15, kind, n, 0, false)
		}
	}
	for kind := -300; kind <= 300; kind++ {
		_, valid := impl.Derive(15, kind, 0)
		_, invalid := impl.Derive(31, kind, 0)
		if valid != (1 <= kind && kind <= 5) || invalid != (kind == 6) {
			t.Errorf("kind %d: %v of a valid one, %v of one that is not", kind, valid, invalid)
		}
	}
}

func TestDeriveOfWantsThatMayNotBe(t *testing.T) {
	for kind := 1; kind <= 6; kind++ {
		for _, flag := range []int{impl.FlInvalid, impl.FlInitial, impl.FlForwarded, impl.FlProxied} {
			// A parent that has the flag itself gives no right to want it.
			for parent := range 256 {
				checkDerive(t, "a flag that may not be wanted", parent, kind, flag, 0, false)
				checkDerive(t, "the same, with the first four", parent, kind, flag+15, 0, false)
			}
		}
		checkDerive(t, "all that may not be wanted", 15, kind, 240, 0, false)
		checkDerive(t, "all that may not be wanted, of what is not yet valid", 31, kind, 240, 0, false)
	}
}

// What is not yet valid is good for nothing but to be made valid; what is valid is not made valid again.
func TestDeriveOfWhatIsNotYetValid(t *testing.T) {
	for parent := range 256 {
		for want := range 16 {
			for kind := 1; kind <= 6; kind++ {
				_, ok := impl.Derive(parent, kind, want)
				invalid := parent/16%2 == 1
				if invalid && ok != (kind == impl.KiValidate) || !invalid && kind == impl.KiValidate && ok {
					t.Errorf("Derive(%d, %d, %d) says %v", parent, kind, want, ok)
				}
			}
			if made, ok := impl.Derive(parent, impl.KiPostdate, want); ok {
				if made/16%2 != 1 {
					t.Errorf("postdated of %d is valid: %d", parent, made)
				}
				if valid, ok := impl.Derive(made, impl.KiValidate, want); !ok || valid != made-16 {
					t.Errorf("Derive(%d, KiValidate, %d) = %d, %v", made, want, valid, ok)
				}
			}
		}
	}
}

func TestDeriveWithAndWithoutItsFlag(t *testing.T) {
	needs := map[int]int{impl.KiForward: impl.FlForward, impl.KiProxy: impl.FlProxy, impl.KiRenew: impl.FlRenew, impl.KiPostdate: impl.FlPostdate}
	for kind, flag := range needs {
		for parent := range 256 {
			if parent/16%2 == 1 {
				continue
			}
			has := parent/flag%2 == 1
			for want := range 16 {
				f, ok := impl.Derive(parent, kind, want)
				if ok != has || !ok && f != 0 {
					t.Errorf("Derive(%d, %d, %d) = %d, %v", parent, kind, want, f, ok)
				}
			}
		}
	}
	for parent := range 256 {
		for want := range 16 {
			if _, ok := impl.Derive(parent, impl.KiPlain, want); ok != (parent/16%2 == 0) {
				t.Errorf("Derive(%d, KiPlain, %d) says %v", parent, want, ok)
			}
		}
	}
}

// Promise 15, and what else holds of all that is made, of all parents, by all kinds, with all wants.
func TestDeriveOfAll(t *testing.T) {
	for parent := range 256 {
		for kind := -1; kind <= 8; kind++ {
			for want := range 256 {
				f, ok := impl.Derive(parent, kind, want)
				if g, is := plainDerive(parent, kind, want); f != g || ok != is {
					t.Fatalf("Derive(%d, %d, %d) = %d, %v, want %d, %v", parent, kind, want, f, ok, g, is)
				}
				if !ok {
					continue
				}
				made, _ := plainSet(f, 8)
				of, _ := plainSet(parent, 8)
				for place := range 4 {
					if made[place] && !of[place] {
						t.Fatalf("Derive(%d, %d, %d) = %d, which has %c of its own", parent, kind, want, f, plainLetters[place])
					}
				}
				if of[6] && !made[6] || of[7] && !made[7] {
					t.Fatalf("Derive(%d, %d, %d) = %d: it is forgotten what it was", parent, kind, want, f)
				}
				if made[5] {
					t.Fatalf("Derive(%d, %d, %d) = %d is initial", parent, kind, want, f)
				}
				if !impl.Below(f, parent) {
					t.Fatalf("Derive(%d, %d, %d) = %d is not Below", parent, kind, want, f)
				}
			}
		}
	}
}

func TestDeriveKeepsWhateverIsWanted(t *testing.T) {
	for parent := range 256 {
		for want := range 16 {
			if f, ok := impl.Derive(parent, impl.KiRenew, want); ok && f%16 != parent%16 {
				t.Errorf("Derive(%d, KiRenew, %d) = %d", parent, want, f)
			}
			if f, ok := impl.Derive(parent, impl.KiValidate, want); ok && f%16 != parent%16 {
				t.Errorf("Derive(%d, KiValidate, %d) = %d", parent, want, f)
			}
		}
	}
}

// However often something is made of what was made, nothing of the first four comes back, and nothing that stays goes.
func TestDeriveAgainAndAgain(t *testing.T) {
	r := rand.New(rand.NewSource(15))
	for range 3000 {
		first := r.Intn(256)
		at := first
		for range 12 {
			f, ok := impl.Derive(at, 1+r.Intn(6), r.Intn(16))
			if !ok {
				continue
			}
			if !impl.Below(f, at) || !impl.Below(f, first) || !plainBelow(f, first) {
				t.Fatalf("%d out of %d, and that out of %d", f, at, first)
			}
			if f/64%2 < first/64%2 || f/128 < first/128 || f/32%2 == 1 {
				t.Fatalf("%d out of %d, and that out of %d: what it was", f, at, first)
			}
			at = f
		}
	}
}

func TestBelow(t *testing.T) {
	for _, c := range []struct {
		what string
		a, b int
		want bool
	}{
		{"nothing and nothing", 0, 0, true},
		{"nothing and all", 0, 255, true},
		{"all and itself", 255, 255, true},
		{"all and nothing", 255, 0, false},
		{"all and the first four", 255, 15, true},
		{"the first four and all but these", 15, 240, false},
		{"all but the first four and nothing", 240, 0, true},
		{"some and more", 5, 7, true},
		{"more and some", 7, 5, false},
		{"another one of a lesser number", 1, 14, false},
		{"the last one alone, and those ahead", 8, 7, false},
	} {
		if got := impl.Below(c.a, c.b); got != c.want {
			t.Errorf("%s: Below(%d, %d) = %v", c.what, c.a, c.b, got)
		}
	}
	for a := -20; a <= 280; a++ {
		for b := -20; b <= 280; b++ {
			if impl.Below(a, b) != plainBelow(a, b) {
				t.Errorf("Below(%d, %d) = %v", a, b, impl.Below(a, b))
			}
		}
	}
	for _, n := range noSums() {
		for _, other := range []int{0, 15, 240, 255, n} {
			if impl.Below(n, other) || impl.Below(other, n) {
				t.Errorf("Below of %d and %d", n, other)
			}
		}
	}
}

func TestShowAndReadFlagsBothWays(t *testing.T) {
	texts := map[string]int{}
	for f := range 256 {
		s := impl.ShowFlags(f)
		if s != plainShowFlags(f) {
			t.Errorf("ShowFlags(%d) = %q, want %q", f, s, plainShowFlags(f))
		}
		if other, ok := texts[s]; ok {
			t.Errorf("%d and %d are both shown as %q", other, f, s)
		}
		texts[s] = f
		checkReadFlags(t, s, f, true)
	}
	for _, c := range []struct {
		f int
		s string
	}{{0, "-"}, {1, "f"}, {2, "p"}, {4, "r"}, {8, "d"}, {16, "i"}, {32, "I"}, {64, "F"}, {128, "P"}, {255, "fprdiIFP"}, {129, "fP"}, {48, "iI"}, {65, "fF"}, {130, "pP"}} {
		if s := impl.ShowFlags(c.f); s != c.s {
			t.Errorf("ShowFlags(%d) = %q, want %q", c.f, s, c.s)
		}
		checkReadFlags(t, c.s, c.f, true)
	}
	for _, n := range noSums() {
		if s := impl.ShowFlags(n); s != "" {
			t.Errorf("ShowFlags(%d) = %q", n, s)
		}
	}
	for n := -300; n <= 600; n++ {
		if s := impl.ShowFlags(n); (s != "") != (0 <= n && n <= 255) {
			t.Errorf("ShowFlags(%d) = %q", n, s)
		}
	}
}

func TestReadFlagsOfWhatIsNone(t *testing.T) {
	for _, s := range []string{
		"", " ", "\n", "\x00", "0", "1", "255", "--", "---", "-f", "f-", "-fprdiIFP", "fprdiIFP-", "fp-rd", "f-P",
		"ff", "fpp", "ffprdiIFP", "fprdiIFPP", "iIi", "FF", "pf", "dr", "Ii", "PF", "PFIidrpf", "fprdIiFP", "fprdiIPF", "Ff", "Pp",
		"x", "fx", "xf", "fxp", "R", "D", "fpR", "a", "b", "e", "g", "q", "f ", " f", "f p", "f,p", "f\n", "f\x00", "\x00f",
		"\xff", "f\xff", "\xe6", "é", "ƒ", "ｆ", "fé", "−", "–", "\u00adf", "\ufefff",
		strings.Repeat("f", 300), strings.Repeat("-", 300), strings.Repeat("fprdiIFP", 2), strings.Repeat("x", 1<<20),
	} {
		checkReadFlags(t, s, 0, false)
	}
}

func TestReadFlagsOfAllShortTexts(t *testing.T) {
	texts := plainTexts()
	for a := range 256 {
		one := string([]byte{byte(a)})
		f, ok := texts[one]
		checkReadFlags(t, one, f, ok)
		for b := range 256 {
			two := string([]byte{byte(a), byte(b)})
			f, ok := texts[two]
			checkReadFlags(t, two, f, ok)
		}
	}
	letters := plainLetters + "-x"
	var all func(s string, more int)
	all = func(s string, more int) {
		f, ok := texts[s]
		checkReadFlags(t, s, f, ok)
		if more > 0 {
			for i := range len(letters) {
				all(s+letters[i:i+1], more-1)
			}
		}
	}
	all("", 5)
}

// Each text that is shown, with any byte put in anywhere, with one less, and with two that change places.
func TestReadFlagsOfTextsChangedByOne(t *testing.T) {
	texts := plainTexts()
	say := func(s string) {
		t.Helper()
		f, ok := texts[s]
		checkReadFlags(t, s, f, ok)
	}
	for s := range texts {
		for i := range len(s) + 1 {
			for b := range 256 {
				say(s[:i] + string([]byte{byte(b)}) + s[i:])
			}
		}
		for i := range len(s) {
			say(s[:i] + s[i+1:])
			for j := range i {
				turned := []byte(s)
				turned[i], turned[j] = turned[j], turned[i]
				say(string(turned))
			}
		}
	}
}
