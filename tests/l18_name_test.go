package tests

import (
	"cmp"
	"math/rand"
	"slices"
	"strings"
	"testing"

	"loop.example/g00769/impl"
)

// named is a name of a Realm (none where it is empty) and parts.
func named(realm string, parts ...string) impl.Name {
	return impl.Name{Parts: parts, Realm: realm}
}

func sameName(a, b impl.Name) bool {
	return a.Realm == b.Realm && slices.Equal(a.Parts, b.Parts)
}

// Names by plain words: what the tests hold the program's answers against.

func plainPieceOk(s string, least int) bool {
	for i := range len(s) {
		if s[i] < 33 || s[i] > 126 {
			return false
		}
	}
	return len(s) >= least && len(s) <= 20
}

func plainNameOk(n impl.Name) bool {
	for _, part := range n.Parts {
		if !plainPieceOk(part, 1) {
			return false
		}
	}
	return len(n.Parts) >= 1 && len(n.Parts) <= 4 && plainPieceOk(n.Realm, 0)
}

func plainQuoted(s string) string {
	return strings.NewReplacer(`\`, `\\`, `/`, `\/`, `@`, `\@`).Replace(s)
}

func plainShowName(n impl.Name) string {
	if !plainNameOk(n) {
		return ""
	}
	var parts []string
	for _, part := range n.Parts {
		parts = append(parts, plainQuoted(part))
	}
	s := strings.Join(parts, "/")
	if n.Realm != "" {
		s += "@" + plainQuoted(n.Realm)
	}
	return s
}

// plainReadName turns what is quoted into bytes that no name has, cuts the text at what is left, and turns these back.
func plainReadName(s string) (impl.Name, bool) {
	for _, b := range []byte(s) {
		if b < 33 || b > 126 {
			return impl.Name{}, false
		}
	}
	s = strings.NewReplacer(`\\`, "\x01", `\/`, "\x02", `\@`, "\x03").Replace(s)
	back := strings.NewReplacer("\x01", `\`, "\x02", `/`, "\x03", `@`)
	ahead, realm, has := strings.Cut(s, "@")
	if strings.Contains(s, `\`) || strings.ContainsAny(realm, "/@") || has && realm == "" {
		return impl.Name{}, false
	}
	n := impl.Name{Realm: back.Replace(realm)}
	for _, part := range strings.Split(ahead, "/") {
		n.Parts = append(n.Parts, back.Replace(part))
	}
	if !plainNameOk(n) {
		return impl.Name{}, false
	}
	return n, true
}

func plainNameFits(pattern, n impl.Name) bool {
	if !plainNameOk(pattern) || !plainNameOk(n) || len(pattern.Parts) != len(n.Parts) {
		return false
	}
	for i, part := range pattern.Parts {
		if part != "*" && part != n.Parts[i] {
			return false
		}
	}
	return pattern.Realm == "" || pattern.Realm == "*" || pattern.Realm == n.Realm
}

// plainOrder is below 0 where a is ahead, above where b is.
func plainOrder(a, b string) int {
	for i := range min(len(a), len(b)) {
		if a[i] != b[i] {
			return int(a[i]) - int(b[i])
		}
	}
	return len(a) - len(b)
}

func plainNameLess(a, b impl.Name) bool {
	if order := plainOrder(a.Realm, b.Realm); order != 0 {
		return order < 0
	}
	for i := range min(len(a.Parts), len(b.Parts)) {
		if order := plainOrder(a.Parts[i], b.Parts[i]); order != 0 {
			return order < 0
		}
	}
	return len(a.Parts) < len(b.Parts)
}

func (m *memories) addName(n impl.Name) {
	addList(m, "Parts", n.Parts)
	m.addTexts("a part", n.Parts...)
	m.addTexts("Realm", n.Realm)
}

// nameWithRoom is the name with spare room behind its parts, and a question whether that and the parts are as they were.
func nameWithRoom(n impl.Name) (impl.Name, func() bool) {
	var asked []func() bool
	n.Parts = roomBehind(&asked, n.Parts, "spare")
	return n, asked[0]
}

// checkName holds what is said and shown of a name against plain words; asks that it is not changed, that what is shown is new memory, and for promise 18: it is read back.
func checkName(t *testing.T, what string, n impl.Name) bool {
	t.Helper()
	handed, asItWas := nameWithRoom(n)
	right, shown := impl.NameOk(handed), impl.ShowName(handed)
	if want := plainNameOk(n); right != want {
		t.Fatalf("%s: NameOk(%q) = %v", what, n, right)
	}
	if want := plainShowName(n); shown != want {
		t.Fatalf("%s: ShowName(%q) = %q, not %q", what, n, shown, want)
	}
	if !asItWas() {
		t.Fatalf("%s: %q was changed", what, n)
	}
	for _, piece := range append(slices.Clone(n.Parts), n.Realm) {
		if sharesMemory(shown, piece) {
			t.Fatalf("%s: %q, that is shown of %q, shares memory with it", what, shown, n)
		}
	}
	if right {
		checkReadName(t, what, shown, n, true)
	}
	if got := impl.NameFits(n, n); got != right {
		t.Fatalf("%s: NameFits(%q, itself) = %v", what, n, got)
	}
	return right
}

func checkNameOk(t *testing.T, what string, want bool, n impl.Name) {
	t.Helper()
	if got := checkName(t, what, n); got != want {
		t.Errorf("%s: NameOk(%q) = %v", what, n, got)
	}
	if want {
		return
	}
	for _, other := range someNames() {
		checkFits(t, what, n, other, false)
		checkFits(t, what, other, n, false)
	}
	for _, parts := range [][]string{{"*"}, {"*", "*"}, {"*", "*", "*", "*"}} {
		checkFits(t, what, named("", parts...), n, false)
		checkFits(t, what, named("*", parts...), n, false)
	}
}

// checkReadName asks, too, that what is read is new memory and is shown as that text again.
func checkReadName(t *testing.T, what, s string, want impl.Name, wantOk bool) {
	t.Helper()
	got, ok := impl.ReadName(s)
	if ok != wantOk || !sameName(got, want) {
		t.Fatalf("%s: ReadName(%q) = %q, %v, not %q, %v", what, s, got, ok, want, wantOk)
	}
	var answered, given memories
	answered.addName(got)
	given.addTexts("the text", s)
	checkApart(t, what, answered, given)
	if ok && (impl.ShowName(got) != s || !impl.NameOk(got)) {
		t.Fatalf("%s: %q is read as %q, which is shown as %q", what, s, got, impl.ShowName(got))
	}
}

// checkAnyNameText holds what is read of any text against plain words, and says whether it is taken.
func checkAnyNameText(t *testing.T, what, s string) bool {
	t.Helper()
	want, ok := plainReadName(s)
	checkReadName(t, what, s, want, ok)
	return ok
}

func checkFits(t *testing.T, what string, pattern, n impl.Name, want bool) {
	t.Helper()
	if plainNameFits(pattern, n) != want {
		t.Fatalf("%s: the chapter says of %q and %q: %v", what, pattern, n, !want)
	}
	handedPattern, patternAsItWas := nameWithRoom(pattern)
	handed, asItWas := nameWithRoom(n)
	if got := impl.NameFits(handedPattern, handed); got != want {
		t.Fatalf("%s: NameFits(%q, %q) = %v", what, pattern, n, got)
	}
	if !patternAsItWas() || !asItWas() {
		t.Fatalf("%s: %q or %q was changed", what, pattern, n)
	}
}

func checkLess(t *testing.T, what string, a, b impl.Name, want bool) {
	t.Helper()
	if plainNameLess(a, b) != want {
		t.Fatalf("%s: the chapter says of %q and %q: %v", what, a, b, !want)
	}
	handedA, aAsItWas := nameWithRoom(a)
	handedB, bAsItWas := nameWithRoom(b)
	if got := impl.NameLess(handedA, handedB); got != want {
		t.Fatalf("%s: NameLess(%q, %q) = %v", what, a, b, got)
	}
	if !aAsItWas() || !bAsItWas() {
		t.Fatalf("%s: %q or %q was changed", what, a, b)
	}
}

func someNames() []impl.Name {
	return []impl.Name{
		named("", "a"), named("R", "a"), named("R@X", "host", "a/b"), named("*", "*"), named("", "*", "*"), named(`\`, "a", "b", "c", "d"),
		named("@", "/", `\`), named(strings.Repeat("R", 20), strings.Repeat("a", 20), strings.Repeat("/", 20)),
	}
}

// Texts that are no part, each for one reason alone, and no Realm, either (but the empty one).
func wrongPieces() map[string]string {
	wrong := map[string]string{
		"21 bytes":                             strings.Repeat("a", 21),
		"21 signs that are quoted":             strings.Repeat("/", 21),
		"1000 bytes":                           strings.Repeat("a", 1000),
		"a sign of two bytes":                  "\u00e9",
		"a sign of three bytes":                "\u65e5",
		"a sign of four bytes":                 "\U0001f511",
		"a sign of two bytes ahead":            "\u00e9a",
		"a sign of two bytes between":          "a\u00e9a",
		"a sign of two bytes at the end":       "a\u00e9",
		"a sign that is A in 8 bits":           "\u0141",
		"a sign that is / in 8 bits":           "\u012f",
		"a sign that is A in 16 bits":          "\U00010041",
		"the sign of what is none":             "\ufffd",
		"the last byte of a sign alone":        "\x80",
		"the first byte of a sign alone":       "a\xc3",
		"the first byte of a sign ahead of /":  "\xc3/",
		"a / that is written with two bytes":   "\xc0\xaf",
		"half of a pair":                       "\xed\xa0\x80",
		"a sign that is too great":             "\xf4\x90\x80\x80",
		"bytes that no sign has":               "\xff\xfe",
		"a blank between":                      "a b",
		"a blank ahead":                        " a",
		"a blank at the end":                   "a ",
		"a line's end":                         "a\n",
		"a byte 0 at the end":                  "a\x00",
		"20 bytes, the last one of them 127":   strings.Repeat("a", 19) + "\x7f",
		"7 signs of three bytes, 21 bytes":     strings.Repeat("\u65e5", 7),
		"as many signs as a part may have":     strings.Repeat("\u00e9", 20),
		"half as many signs, 20 bytes of them": strings.Repeat("\u00e9", 10),
	}
	for b := range 256 {
		if b >= 33 && b <= 126 {
			continue
		}
		for what, s := range map[string]string{"alone": "", "behind": "abc", "behind 19": strings.Repeat("a", 19)} {
			wrong["byte "+impl.Dec(b)+" "+what] = s + string([]byte{byte(b)})
		}
		wrong["byte "+impl.Dec(b)+" ahead"] = string([]byte{byte(b)}) + "abc"
		wrong["byte "+impl.Dec(b)+" between"] = "a" + string([]byte{byte(b)}) + "bc"
	}
	return wrong
}

func TestNameConstants(t *testing.T) {
	if impl.MaxPart != 20 || impl.MaxName != 4 {
		t.Error(impl.MaxPart, impl.MaxName)
	}
}

func TestNameOk(t *testing.T) {
	for _, n := range someNames() {
		checkNameOk(t, "some name", true, n)
	}
	long := strings.Repeat("a", 20)
	for _, realm := range []string{"", "R", long, "/", "*"} {
		for count := range 8 {
			right := count >= 1 && count <= 4
			checkNameOk(t, "parts of a byte", right, named(realm, slices.Repeat([]string{"a"}, count)...))
			checkNameOk(t, "parts of 20 bytes", right, named(realm, slices.Repeat([]string{long}, count)...))
		}
		checkNameOk(t, "nil", false, impl.Name{Realm: realm})
		checkNameOk(t, "no parts", false, impl.Name{Parts: []string{}, Realm: realm})
		checkNameOk(t, "1000 parts", false, named(realm, slices.Repeat([]string{"a"}, 1000)...))
		checkNameOk(t, "a part of no byte", false, named(realm, ""))
		checkNameOk(t, "4 parts of no byte", false, named(realm, "", "", "", ""))
		for at := range 4 {
			parts := []string{"a", "b", "c", "d"}
			parts[at] = ""
			checkNameOk(t, "one part of no byte", false, named(realm, parts...))
		}
	}
}

func TestBytesOfNames(t *testing.T) {
	for b := 33; b <= 126; b++ {
		sign := string([]byte{byte(b)})
		for _, piece := range []string{sign, sign + "a", "a" + sign, "a" + sign + "a", strings.Repeat(sign, 20)} {
			checkNameOk(t, "a part", true, named("", piece))
			checkNameOk(t, "a part ahead", true, named("R", piece, "a"))
			checkNameOk(t, "all parts", true, named(piece, piece, piece, piece, piece))
			checkNameOk(t, "a Realm", true, named(piece, "a"))
		}
	}
}

func TestNamesThatAreNotRight(t *testing.T) {
	for what, piece := range wrongPieces() {
		checkNameOk(t, what+" as a part", false, named("", piece))
		checkNameOk(t, what+" as a part, with a Realm", false, named("R", piece))
		checkNameOk(t, what+" as the first part", false, named("", piece, "a", "b", "c"))
		checkNameOk(t, what+" as the last part", false, named("", "a", "b", "c", piece))
		checkNameOk(t, what+" as a Realm", false, named(piece, "a"))
		checkNameOk(t, what+" as a Realm of 4 parts", false, named(piece, "a", "b", "c", "d"))
		for _, s := range []string{piece, piece + "@R", piece + "/a", "a/" + piece, "a@" + piece} {
			if checkAnyNameText(t, what, s) {
				t.Errorf("%s: %q is read", what, s)
			}
		}
	}
}

func TestShowName(t *testing.T) {
	for _, c := range []struct {
		n     impl.Name
		shown string
	}{
		{named("", "a"), "a"},
		{named("R", "a"), "a@R"},
		{named("", "a", "b"), "a/b"},
		{named("R", "a", "b"), "a/b@R"},
		{named("R", "a", "b", "c", "d"), "a/b/c/d@R"},
		{named("R@X", "host", "a/b"), `host/a\/b@R\@X`},
		{named("", "/"), `\/`},
		{named("", "@"), `\@`},
		{named("", `\`), `\\`},
		{named("/", "/"), `\/@\/`},
		{named("@", "@"), `\@@\@`},
		{named(`\`, `\`), `\\@\\`},
		{named("", "//"), `\/\/`},
		{named("", "@@"), `\@\@`},
		{named("", `\\`), `\\\\`},
		{named("", "/a"), `\/a`},
		{named("", "@a"), `\@a`},
		{named("", `\a`), `\\a`},
		{named("", "a/"), `a\/`},
		{named("", "a@"), `a\@`},
		{named("", `a\`), `a\\`},
		{named("", `a\`, "b"), `a\\/b`},
		{named("R", `a\`), `a\\@R`},
		{named("", "a/", "/b"), `a\//\/b`},
		{named("@R", "a@"), `a\@@\@R`},
		{named("", `/\`), `\/\\`},
		{named("", `\/`), `\\\/`},
		{named("", "/@"), `\/\@`},
		{named("", "@/"), `\@\/`},
		{named("", `@\`), `\@\\`},
		{named("", `\@`), `\\\@`},
		{named("", "/", "/", "/", "/"), `\//\//\//\/`},
		{named("a/b", "c"), `c@a\/b`},
		{named(`a\b`, "c"), `c@a\\b`},
		{named("a@b", "c"), `c@a\@b`},
		{named(`R\`, "c"), `c@R\\`},
		{named("*", "*", "*"), "*/*@*"},
		{named("~", "!", "~"), "!/~@~"},
		{named("", "a b"), ""},
		{named("", "a", ""), ""},
		{named("R", ""), ""},
		{named("R"), ""},
		{impl.Name{}, ""},
		{named("", "a", "b", "c", "d", "e"), ""},
		{named(strings.Repeat("R", 21), "a"), ""},
		{named("", strings.Repeat("/", 21)), ""},
		{named(strings.Repeat("@", 20), strings.Repeat("/", 20), strings.Repeat(`\`, 20), strings.Repeat("@", 20), strings.Repeat("a", 20)),
			strings.Repeat(`\/`, 20) + "/" + strings.Repeat(`\\`, 20) + "/" + strings.Repeat(`\@`, 20) + "/" + strings.Repeat("a", 20) + "@" + strings.Repeat(`\@`, 20)},
		{named(strings.Repeat("@", 20), slices.Repeat([]string{strings.Repeat("/", 20)}, 4)...),
			strings.Repeat(strings.Repeat(`\/`, 20)+"/", 3) + strings.Repeat(`\/`, 20) + "@" + strings.Repeat(`\@`, 20)},
	} {
		checkName(t, "shown", c.n)
		if got := impl.ShowName(c.n); got != c.shown {
			t.Errorf("ShowName(%q) = %q, not %q", c.n, got, c.shown)
		}
		if c.shown != "" {
			checkReadName(t, "shown", c.shown, c.n, true)
		}
	}
}

func TestReadName(t *testing.T) {
	long, signs := strings.Repeat("a", 20), strings.Repeat(`\/`, 20)
	for s, want := range map[string]impl.Name{
		"a":                     named("", "a"),
		"!":                     named("", "!"),
		"~":                     named("", "~"),
		"a@b":                   named("b", "a"),
		"a/b":                   named("", "a", "b"),
		"a/b/c/d":               named("", "a", "b", "c", "d"),
		"a/b/c/d@e":             named("e", "a", "b", "c", "d"),
		`\/`:                    named("", "/"),
		`\@`:                    named("", "@"),
		`\\`:                    named("", `\`),
		`\\\\`:                  named("", `\\`),
		`a\\/b`:                 named("", `a\`, "b"),
		`a\\\/b`:                named("", `a\/b`),
		`a\\\\/b`:               named("", `a\\`, "b"),
		`a\\@b`:                 named("b", `a\`),
		`a\\\@b`:                named("", `a\@b`),
		`\@@\@`:                 named("@", "@"),
		`\//\/`:                 named("", "/", "/"),
		`a@\/`:                  named("/", "a"),
		`a@b\/c\@d\\`:           named(`b/c@d\`, "a"),
		long:                    named("", long),
		long + "@" + long:       named(long, long),
		long + "/" + long:       named("", long, long),
		signs:                   named("", strings.Repeat("/", 20)),
		signs + "@" + signs:     named(strings.Repeat("/", 20), strings.Repeat("/", 20)),
		long[:19] + `\\`:        named("", long[:19]+`\`),
		long[:19] + `\@@R`:      named("R", long[:19]+"@"),
		`\/` + long[:19] + `/b`: named("", "/"+long[:19], "b"),
		"a@" + long[:19] + `\@`: named(long[:19]+"@", "a"),
		"*/*@*":                 named("*", "*", "*"),
	} {
		checkReadName(t, "a name", s, want, true)
	}
}

func TestTextsThatAreNoNames(t *testing.T) {
	long, signs := strings.Repeat("a", 20), strings.Repeat(`\/`, 20)
	for _, s := range []string{
		"", "/", "@", `\`, "//", "@@", "/@", "@/", `\\\`,
		"/a", "/a/b", "/a@R", "a/", "a/b/", "a/b/c/d/", "a/@R", "a//b", "a///b", "a/b//c", "//a", "a//",
		"@a", "@R/a", "a@", "a/b@", "a/b/c/d@", "a@b@c", "a@@b", "a@b@", "@a@b", "a@@", "a@b@c@d",
		"a@b/c", "a@/b", "a@b/", "a@/", "a/b@c/d", "a@b/c@d",
		`a\`, `a\\\`, `a/b\`, `a@b\`, `a@\`, `a/\`, `a\/\`, `\@\`,
		`\a`, `a\b`, `a\bc`, `a\*`, `\\\a`, `a@\b`, `a@b\c`, `a/\b`, `a\ `, `a\` + "\x00", `a\` + "\xff", `a\` + "\u00e9",
		`a\\b\`, `a\\\b`,
		"a/b/c/d/e", "a/b/c/d/e@R", "a/b/c/d/", "/a/b/c/d", `a/b/c/d/\/`, strings.Repeat("a/", 1000) + "a",
		long + "a", long + "a@R", long + "a/b", "b/" + long + "a", "a@" + long + "a",
		signs + "a", "a" + signs, signs + `\/`, signs + `\\`, signs + `\@`, signs + "a@R", "a/" + signs + "a", "a@" + signs + "a", "a@" + signs + `\/`,
		long + `\/`, `\\` + long, long[:10] + `\@` + long[:10], long + "//", long + "@",
		" ", "a ", " a", "a b", "a@b c", "a@ ", "a\n", "a@R\n", "a\t", "a\x00", "\x00", "\x7f", "a\x7f", "a@\x7f", "\x80", "\xff", "a@\xff", "a/\xff", "a\xff", "a@R\xff",
		"\u00e9", "a/\u65e5", "a@\u65e5", "\u012f", "a\u012fb", "a\u0140b", "a\xc0\xafb", "\ufffd", "a\ufffd", "a@R\ufffd",
		strings.Repeat("a", 100000), strings.Repeat("/", 100000), strings.Repeat(`\`, 100000), strings.Repeat("@", 100000), strings.Repeat("a@", 100000), strings.Repeat("a/", 100000), "a@" + strings.Repeat("b", 1000000), "a" + strings.Repeat("\xff", 100000),
	} {
		checkReadName(t, "no name", s, impl.Name{}, false)
		checkAnyNameText(t, "no name", s)
	}
}

// A text as long as the longest one that is shown, but of no name.
func TestTextsAsLongAsShown(t *testing.T) {
	piece := strings.Repeat(`\/`, 20)
	all := strings.Repeat(piece+"/", 3) + piece + "@" + piece
	if len(all) != 204 || !checkAnyNameText(t, "the longest one", all) {
		t.Fatalf("%q of %d bytes is not read", all, len(all))
	}
	for i := range len(all) {
		checkAnyNameText(t, "cut short", all[:i])
		checkAnyNameText(t, "cut short ahead", all[i:])
		checkAnyNameText(t, "a byte less", all[:i]+all[i+1:])
		for _, sign := range []string{"/", "@", `\`, "a", " ", "\xff"} {
			checkAnyNameText(t, "a byte changed", all[:i]+sign+all[i+1:])
			checkAnyNameText(t, "a byte more", all[:i]+sign+all[i:])
		}
	}
}

func TestNameFits(t *testing.T) {
	n := named("R@X", "host", "a/b")
	one := named("", "a")
	for _, c := range []struct {
		what       string
		pattern, n impl.Name
		want       bool
	}{
		{"itself", n, n, true},
		{"a * as the first part", named("R@X", "*", "a/b"), n, true},
		{"a * as the last part", named("R@X", "host", "*"), n, true},
		{"a * as each part", named("R@X", "*", "*"), n, true},
		{"a * as each part and the Realm", named("*", "*", "*"), n, true},
		{"a * as the Realm", named("*", "host", "a/b"), n, true},
		{"no Realm", named("", "host", "a/b"), n, true},
		{"no Realm, a * as each part", named("", "*", "*"), n, true},
		{"another first part", named("R@X", "hosts", "a/b"), n, false},
		{"another last part", named("R@X", "host", "a"), n, false},
		{"another last part behind a *", named("R@X", "*", "a"), n, false},
		{"another Realm", named("R", "host", "a/b"), n, false},
		{"another Realm, a * as each part", named("Q", "*", "*"), n, false},
		{"a Realm in small letters", named("r@x", "host", "a/b"), n, false},
		{"a part in great letters", named("R@X", "HOST", "a/b"), n, false},
		{"parts in another order", named("R@X", "a/b", "host"), n, false},
		{"a * behind", named("R@X", "hos*", "a/b"), n, false},
		{"a * ahead", named("R@X", "*ost", "a/b"), n, false},
		{"a * between", named("R@X", "h*t", "a/b"), n, false},
		{"a * behind all", named("R@X", "host*", "a/b"), n, false},
		{"two *", named("R@X", "**", "a/b"), n, false},
		{"two * as the Realm", named("**", "host", "a/b"), n, false},
		{"a * in the Realm", named("R*", "host", "a/b"), n, false},
		{"another sign for all", named("R@X", "?", "a/b"), n, false},
		{"one part, a *", named("", "*"), n, false},
		{"three parts, each a *", named("", "*", "*", "*"), n, false},
		{"the first part alone", named("R@X", "host"), n, false},
		{"a part more", named("R@X", "host", "a/b", "c"), n, false},
		{"a part more, a *", named("R@X", "host", "a/b", "*"), n, false},
		{"4 parts", named("", "*", "b", "*", "d"), named("R", "a", "b", "c", "d"), true},
		{"4 parts, another one among them", named("", "*", "b", "*", "d"), named("R", "a", "c", "c", "d"), false},
		{"one part", one, one, true},
		{"one part, a *", named("", "*"), one, true},
		{"a Realm, and a name without", named("R", "a"), one, false},
		{"a * as the Realm, and a name without", named("*", "a"), one, true},
		{"two * as the Realm, and a name without", named("**", "a"), one, false},
		{"a * in the name", named("", "a"), named("", "*"), false},
		{"a * in both", named("", "*"), named("", "*"), true},
		{"a * behind in both", named("", "a*"), named("", "a*"), true},
		{"a * behind in the name", named("", "a"), named("", "a*"), false},
		{"a * behind in the pattern", named("", "a*"), named("", "a"), false},
		{"a * as the Realm of the name", named("R", "a"), named("*", "a"), false},
		{"a * as the Realm of the name, none in the pattern", named("", "a"), named("*", "a"), true},
		{"a * as the Realm of both", named("*", "a"), named("*", "a"), true},
		{"a quoted *", named("", `\*`), named("", "a"), false},
		{"a quoted sign", named("", `a\/b`), named("", "a/b"), false},
		{"the parts in one", named("", "a/b"), named("", "a", "b"), false},
		{"the Realm in the part", named("", "a@R"), named("R", "a"), false},
		{"no parts", named(""), named(""), false},
		{"no parts in the pattern", named(""), one, false},
		{"no parts in the name", one, named(""), false},
		{"a part of no byte in both", named("", ""), named("", ""), false},
		{"a part of no byte in the pattern", named("", ""), one, false},
		{"a part of no byte in the name", named("", "*"), named("", ""), false},
		{"5 parts, each a *", named("", "*", "*", "*", "*", "*"), named("", "a", "b", "c", "d", "e"), false},
		{"21 bytes in the name", named("", "*"), named("", strings.Repeat("a", 21)), false},
		{"21 bytes as the Realm of the name", named("", "*"), named(strings.Repeat("a", 21), "a"), false},
		{"21 bytes as the Realm of the pattern", named(strings.Repeat("a", 21), "*"), one, false},
		{"20 bytes", named("*", "*"), named(strings.Repeat("a", 20), strings.Repeat("a", 20)), true},
		{"a blank in both", named("", "a b"), named("", "a b"), false},
		{"a blank as the Realm of both", named(" ", "a"), named(" ", "a"), false},
		{"a blank in the last part of the name", named("", "*", "*"), named("", "a", " "), false},
		{"a blank in the last part of the pattern", named("", "*", " "), named("", "a", "b"), false},
	} {
		checkFits(t, c.what, c.pattern, c.n, c.want)
	}
}

func TestNameLess(t *testing.T) {
	for _, c := range []struct {
		what string
		a, b impl.Name
	}{
		{"Realms that differ", named("A", "b"), named("B", "a")},
		{"Realms that differ, more parts ahead", named("A", "b", "c"), named("B", "a")},
		{"no Realm, and one", named("", "z"), named("!", "a")},
		{"a Realm that begins the other", named("A", "z"), named("AA", "a")},
		{"a Realm that begins the other, and a small byte", named("A", "z"), named("A!", "a")},
		{"Realms that differ in the last byte", named("AAAB", "z"), named("AAAC", "a")},
		{"Realms that differ ahead, the longer one first", named("AZZZ", "z"), named("B", "a")},
		{"great letters are ahead of small ones", named("Z", "a"), named("a", "a")},
		{"a / is ahead of a letter", named("", "/"), named("", "a")},
		{"a part's end is ahead of what parts them", named("", "a", "z"), named("", "a!", "b")},
		{"not as they are shown", named("", "@"), named("", "A")},
		{"not as they are shown, with a sign", named("", "Z"), named("", `\`)},
		{"first parts that differ", named("", "a", "z"), named("", "b")},
		{"first parts that differ, more parts ahead", named("", "a", "z", "z", "z"), named("", "b")},
		{"first parts that differ, and Realms alike", named("R", "a", "z"), named("R", "b", "a")},
		{"later parts that differ", named("", "a", "b"), named("", "a", "c")},
		{"last parts that differ", named("R", "a", "b", "c", "d"), named("R", "a", "b", "c", "e")},
		{"a part that begins the other", named("", "a", "z"), named("", "aa", "b")},
		{"later parts, one begins the other", named("", "a", "b"), named("", "a", "bb")},
		{"parts that end first", named("", "a"), named("", "a", "b")},
		{"parts that end first, with a Realm", named("R", "a", "b", "c"), named("R", "a", "b", "c", "!")},
		{"a * is no other sign", named("", "*"), named("", "a")},
		{"no parts", named(""), named("", "a")},
		{"no parts, nil", impl.Name{}, named("", "")},
		{"no parts, with a Realm", named("R"), named("R", "")},
		{"no parts, the greater Realm", named("A", "z"), named("B")},
		{"a part of no byte", named("", ""), named("", "a")},
		{"parts of no byte", named("", "", ""), named("", "", "", "")},
		{"a part of no byte, and more", named("", "", "z"), named("", "a")},
		{"5 parts", named("", "a", "b", "c", "d"), named("", "a", "b", "c", "d", "e")},
		{"5 parts, the last one differs", named("", "a", "b", "c", "d", "e"), named("", "a", "b", "c", "d", "f")},
		{"21 bytes", named("", strings.Repeat("a", 20)), named("", strings.Repeat("a", 21))},
		{"21 bytes as the Realm, the last one differs", named(strings.Repeat("a", 20)+"a", "b"), named(strings.Repeat("a", 20)+"b", "a")},
		{"a byte 0", named("", "a\x00"), named("", "a\x01")},
		{"a byte 0 at the end", named("", "a"), named("", "a\x00")},
		{"a byte past 127", named("", "\x7f"), named("", "\x80")},
		{"a byte 255", named("", "\xfe"), named("", "\xff")},
		{"a byte 255 as the Realm", named("a", "b"), named("\xff", "a")},
		{"by bytes, not by signs", named("", "\uff5e"), named("", "\U0001f511")},
		{"texts that are no UTF-8", named("\xc3", "b"), named("\xc3\x28", "a")},
		{"texts that are no UTF-8, each for itself", named("", "\x80"), named("", "\xbf")},
	} {
		checkLess(t, c.what, c.a, c.b, true)
		checkLess(t, c.what+", the other way", c.b, c.a, false)
		checkLess(t, c.what+", the first one and itself", c.a, c.a, false)
		checkLess(t, c.what+", the second one and itself", c.b, c.b, false)
	}
	checkLess(t, "none, nil and empty", impl.Name{}, impl.Name{Parts: []string{}}, false)
	checkLess(t, "none, empty and nil", impl.Name{Parts: []string{}}, impl.Name{}, false)
}

func TestVeryLongNames(t *testing.T) {
	long := strings.Repeat("a", 1000000)
	many := slices.Repeat([]string{"a"}, 100000)
	for _, n := range []impl.Name{named("", long), named(long, "a"), named("", many...), named(long, slices.Repeat([]string{long}, 100)...)} {
		if checkName(t, "a long name", n) {
			t.Error("a long name is right")
		}
		more := named(n.Realm, append(slices.Clone(n.Parts), "a")...)
		checkLess(t, "a part more", n, more, true)
		checkLess(t, "a part less", more, n, false)
	}
}

// everyName says all right names of these letters that are shown by so many bytes at most.
func everyName(letters string, longest int, say func(n impl.Name)) {
	var grow func(parts []string, left int)
	grow = func(parts []string, left int) {
		everyText(letters, left, func(piece string) {
			room := left - len(plainQuoted(piece))
			if piece == "" || room < 0 {
				return
			}
			all := append(slices.Clone(parts), piece)
			if len(all) > 4 {
				return
			}
			say(named("", all...))
			everyText(letters, room-1, func(realm string) {
				if realm != "" && len(plainQuoted(realm)) < room {
					say(named(realm, all...))
				}
			})
			if room > 1 {
				grow(all, room-1)
			}
		})
	}
	grow(nil, longest)
}

// For promise 18: of all texts of a few bytes those that some name is shown as are read, as that name, and no others.
func TestAllShortNames(t *testing.T) {
	const letters, longest = `a/@\`, 8
	byText := make(map[string]impl.Name)
	everyName(letters, longest, func(n impl.Name) {
		shown := impl.ShowName(n)
		if shown == "" || len(shown) > longest {
			t.Fatalf("ShowName(%q) = %q", n, shown)
		}
		if other, ok := byText[shown]; ok {
			t.Fatalf("%q and %q are both shown as %q", n, other, shown)
		}
		byText[shown] = n
	})
	taken := 0
	everyText(letters+" ", longest-1, func(s string) {
		want, ok := byText[s]
		if plain, plainOk := plainReadName(s); plainOk != ok || !sameName(plain, want) {
			t.Fatalf("the chapter says of %q: %q, %v", s, plain, plainOk)
		}
		got, gotOk := impl.ReadName(s)
		if gotOk != ok || !sameName(got, want) {
			t.Fatalf("ReadName(%q) = %q, %v, not %q, %v", s, got, gotOk, want, ok)
		}
		if ok {
			taken++
		}
	})
	for shown, n := range byText {
		checkReadName(t, "a short name", shown, n, true)
	}
	if taken < 500 || len(byText) <= taken {
		t.Errorf("%d and %d short names", taken, len(byText))
	}
}

// Names of few parts of few bytes, some of them not right.
func smallNames(letters string) []impl.Name {
	var pieces []string
	everyText(letters, 2, func(s string) { pieces = append(pieces, s) })
	var l []impl.Name
	for _, realm := range pieces {
		l = append(l, named(realm))
		for _, part := range pieces {
			l = append(l, named(realm, part), named(realm, part, "a"), named(realm, "a", part))
		}
	}
	return l
}

func TestAllSmallNames(t *testing.T) {
	fits, lesser := 0, 0
	all := smallNames("*a")
	for _, a := range all {
		for _, b := range all {
			wantFits, wantLess := plainNameFits(a, b), plainNameLess(a, b)
			if impl.NameFits(a, b) != wantFits || impl.NameLess(a, b) != wantLess {
				t.Fatalf("of %q and %q: NameFits is not %v or NameLess not %v", a, b, wantFits, wantLess)
			}
			if wantFits {
				fits++
			}
			if wantLess {
				lesser++
			}
		}
	}
	if fits < 100 || lesser < 100 {
		t.Errorf("%d fit, %d are less", fits, lesser)
	}
}

// For promise 18: of two unlike names just one is less, and what is less than what is less is less.
func TestNameLessIsOneOrder(t *testing.T) {
	all := smallNames("b/")
	r := rand.New(rand.NewSource(1801))
	r.Shuffle(len(all), func(i, j int) { all[i], all[j] = all[j], all[i] })
	all = append(all[:70], named("\xff", "a"), named("", "\xff", ""), named("", "a", "b", "c", "d", "e"), impl.Name{})
	for _, a := range all {
		for _, b := range all {
			one, other := impl.NameLess(a, b), impl.NameLess(b, a)
			if sameName(a, b) && (one || other) || !sameName(a, b) && one == other {
				t.Fatalf("of %q and %q: NameLess is %v, the other way %v", a, b, one, other)
			}
			for _, c := range all {
				if one && impl.NameLess(b, c) && !impl.NameLess(a, c) {
					t.Fatalf("%q is less than %q, that less than %q, but the first one not less than the last one", a, b, c)
				}
			}
		}
	}
	slices.SortFunc(all, func(a, b impl.Name) int {
		switch {
		case impl.NameLess(a, b):
			return -1
		case impl.NameLess(b, a):
			return 1
		}
		return 0
	})
	for i := 1; i < len(all); i++ {
		if plainNameLess(all[i], all[i-1]) {
			t.Errorf("%q is behind %q", all[i], all[i-1])
		}
	}
}

// anyPiece is, but for one of wrong ones, right as a part.
func anyPiece(r *rand.Rand, wrong int) string {
	var piece []byte
	for range numberNear(r, 1, 20, wrong) {
		piece = append(piece, anyOf(r, []byte(`ab*/@\/@\`)))
		if r.Intn(9) == 0 {
			piece[len(piece)-1] = byte(numberNear(r, 33, 126, wrong))
		}
	}
	return string(piece)
}

func anyName(r *rand.Rand, wrong int) impl.Name {
	var n impl.Name
	for range numberNear(r, 1, 4, 3*wrong) {
		n.Parts = append(n.Parts, anyPiece(r, 4*wrong))
	}
	if r.Intn(2) == 0 {
		n.Realm = anyPiece(r, 4*wrong)
	}
	return n
}

// anyPattern is the name with a * for some of it, or with something else changed.
func anyPattern(r *rand.Rand, n impl.Name) impl.Name {
	n.Parts = slices.Clone(n.Parts)
	for i := range n.Parts {
		if r.Intn(2) == 0 {
			n.Parts[i] = "*"
		}
	}
	switch r.Intn(8) {
	case 0, 1:
		n.Realm = ""
	case 2, 3:
		n.Realm = "*"
	case 4:
		n.Realm = anyPiece(r, 0)
	case 5:
		n.Parts = append(n.Parts, "*")
	case 6:
		if len(n.Parts) > 0 {
			n.Parts[r.Intn(len(n.Parts))] += "*"
		}
	}
	return n
}

func anyNameText(r *rand.Rand, s string) string {
	if r.Intn(3) == 0 {
		return turnedText(r, s)
	}
	i := r.Intn(len(s) + 1)
	return s[:i] + anyOf(r, []string{"/", "@", `\`, "a", "", " "}) + s[min(len(s), i+r.Intn(2)):]
}

func TestNamesAtRandom(t *testing.T) {
	r := rand.New(rand.NewSource(18))
	count := make(map[string]int)
	say := func(what string, yes bool) {
		if yes {
			count[what]++
		} else {
			count["not "+what]++
		}
	}
	for range 20000 {
		n := anyName(r, 12)
		say("right", checkName(t, "a name", n))
		other := anyName(r, 12)
		if r.Intn(2) == 0 {
			other = anyPattern(r, n)
		}
		want := plainNameFits(other, n)
		checkFits(t, "a pattern", other, n, want)
		say("fits", want)
		checkLess(t, "two names", n, other, plainNameLess(n, other))
		checkLess(t, "two names", other, n, plainNameLess(other, n))
		if shown := plainShowName(n); shown != "" {
			say("read", checkAnyNameText(t, "a text", anyNameText(r, shown)))
		}
	}
	for _, what := range []string{"right", "fits", "read"} {
		if count[what] < 1000 || count["not "+what] < 1000 {
			t.Error("too few at random:", what, count[what], count["not "+what])
		}
	}
}

func TestAnyBytesAsName(t *testing.T) {
	r := rand.New(rand.NewSource(180))
	checkAnyNameText(t, "all bytes", allBytes())
	for range 20000 {
		s := make([]byte, r.Intn(12))
		for i := range s {
			s[i] = byte(cmp.Or(r.Intn(256)*r.Intn(2), int(anyOf(r, []byte(`a/@\`)))))
		}
		checkAnyNameText(t, "bytes", string(s))
	}
}

func TestReadNameIsNewEachTime(t *testing.T) {
	first, ok := impl.ReadName(`a/b\/c@R`)
	if !ok {
		t.Fatal("not read")
	}
	overwritten(first.Parts, "changed")
	checkReadName(t, "again", `a/b\/c@R`, named("R", "a", "b/c"), true)
}
