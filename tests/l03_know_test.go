package tests

import (
	"math"
	"math/rand"
	"slices"
	"strings"
	"testing"

	"loop.example/g00769/impl"
)

// plainView is what is seen and reached, worked out by plain words: what the tests hold the program's answers against.
type plainView struct {
	seen    map[string]bool
	reached map[int]bool
}

func plainViewOf(k impl.Known) plainView {
	v := plainView{seen: map[string]bool{}, reached: map[int]bool{}}
	for _, s := range k.Terms {
		v.seen[s] = true
	}
	for _, key := range k.Keys {
		v.reached[key] = true
	}
	for before := -1; before != len(v.seen)+len(v.reached); {
		before = len(v.seen) + len(v.reached)
		found := []string{}
		for s := range v.seen {
			held, _ := plainTermOf(s)
			if held.kind == 'k' {
				v.reached[held.n] = true
			}
			if held.kind == 'l' || held.kind == 's' && v.reached[held.n] {
				found = append(found, held.parts...)
			}
		}
		for _, s := range found {
			v.seen[s] = true
		}
	}
	return v
}

func (v plainView) builds(s string) bool {
	held, ok := plainTermOf(s)
	if !ok || v.seen[s] || held.kind == 'a' {
		return ok
	}
	if held.kind != 'l' && !v.reached[held.n] {
		return false
	}
	for _, part := range held.parts {
		if !v.builds(part) {
			return false
		}
	}
	return true
}

func (v plainView) keys() []int {
	keys := []int{}
	for key := range v.reached {
		keys = append(keys, key)
	}
	slices.Sort(keys)
	return keys
}

// checkKnown holds what is reached, seen and put together against the plain words, and asks for promise 3.
func checkKnown(t *testing.T, k impl.Known, asked []string) {
	t.Helper()
	v := plainViewOf(k)
	reached := impl.Reach(k)
	if !slices.Equal(reached, v.keys()) {
		t.Fatalf("Reach(%#v) = %v, want %v", k, reached, v.keys())
	}
	for _, s := range asked {
		if got := impl.Sees(k, s); got != v.seen[s] {
			t.Fatalf("Sees(%#v, %q) = %v", k, s, got)
		}
		built := impl.Build(k, s)
		if built != v.builds(s) {
			t.Fatalf("Build(%#v, %q) = %v", k, s, built)
		}
		if held, ok := plainTermOf(s); ok && held.kind == 's' && !v.reached[held.n] && built != impl.Sees(k, s) {
			t.Fatalf("Build(%#v, %q) = %v of a key that is not reached", k, s, built)
		}
		more := impl.Reach(impl.Learn(k, s))
		if built && !slices.Equal(more, reached) {
			t.Fatalf("Reach(%#v) = %v, and %v with %q, which can be put together", k, reached, more, s)
		}
		if !holdsAll(more, reached) {
			t.Fatalf("Reach(%#v) = %v, and only %v with %q", k, reached, more, s)
		}
	}
	for key := 1; key <= 6; key++ {
		more := impl.Reach(impl.LearnKey(k, key))
		if !holdsAll(more, reached) || !slices.Contains(more, key) && len(k.Keys) < impl.MaxKeys {
			t.Fatalf("Reach(%#v) = %v, and %v with key %d", k, reached, more, key)
		}
	}
}

func holdsAll(all, some []int) bool {
	for _, n := range some {
		if !slices.Contains(all, n) {
			return false
		}
	}
	return true
}

func key(n int) string { return impl.KeyTerm(n) }

func list(parts ...string) string { return impl.List(parts) }

func knows(terms []string, keys ...int) impl.Known { return impl.Known{Terms: terms, Keys: keys} }

// Just so many numbers, or keys as terms, from first on.
func numbersFrom(first, count int) []int {
	l := []int{}
	for n := range count {
		l = append(l, first+n)
	}
	return l
}

func keyTermsFrom(first, count int) []string {
	l := []string{}
	for _, n := range numbersFrom(first, count) {
		l = append(l, key(n))
	}
	return l
}

// What is known that is not right, for one reason each; but for it the key 7 would be reached, and 8 put together.
func wrongKnowns() map[string]impl.Known {
	with := func(terms ...string) []string { return append(terms, key(7), key(8)) }
	return map[string]impl.Known{
		"one term more than MaxKnown": knows(keyTermsFrom(1, 61)),
		"two terms alike":             knows([]string{key(7), key(8), key(7)}),
		"an empty text":               knows(with("")),
		"no term":                     knows(with("x")),
		"a term cut short":            knows(with("a\x02x")),
		"a byte behind a term":        knows(with("k\x01x")),
		"a list of no key":            knows(with("l\x01k\x00")),
		"a term too long":             knows(with(listOfBytes(901))),
		"a term too deep":             knows(with(sealedTimes("a\x00", 8))),
		"one key more than MaxKeys":   knows(with(), numbersFrom(1, 41)...),
		"keys that fall":              knows(with(), 2, 1),
		"the last key falls":          knows(with(), 1, 3, 2),
		"two keys alike":              knows(with(), 2, 2),
		"a key of 0":                  knows(with(), 0),
		"a key of 0 ahead":            knows(with(), 0, 7),
		"a key below 0":               knows(with(), -1),
		"a key below 0 ahead":         knows(with(), -1, 7),
		"the least number":            knows(with(), math.MinInt),
		"one more than MaxKey":        knows(with(), impl.MaxKey+1),
		"one more behind MaxKey":      knows(with(), impl.MaxKey, impl.MaxKey+1),
		"the greatest number":         knows(with(), math.MaxInt),
	}
}

func TestKnownLimitsAndOk(t *testing.T) {
	if impl.MaxKnown != 60 || impl.MaxKeys != 40 {
		t.Error("a limit is not as the document names it")
	}
	for name, k := range map[string]impl.Known{
		"nothing":               {},
		"empty lists":           {Terms: []string{}, Keys: []int{}},
		"MaxKnown terms":        knows(keyTermsFrom(1, 60)),
		"MaxKeys keys":          knows(nil, numbersFrom(1, 40)...),
		"both full":             knows(keyTermsFrom(1, 60), numbersFrom(impl.MaxKey-39, 40)...),
		"each kind":             knows(someTerms(), 1, 2, impl.MaxKey),
		"terms in any order":    knows([]string{key(9), key(1), "a\x00"}),
		"a term in another one": knows([]string{list(key(1)), key(1), impl.Seal(1, key(1))}),
		"the longest term":      knows([]string{listOfBytes(900)}),
		"the deepest term":      knows([]string{sealedTimes("a\x00", 7)}),
		"the least key":         knows(nil, 1),
		"the greatest key":      knows(nil, impl.MaxKey),
	} {
		if !impl.KnownOk(k) {
			t.Errorf("%s: not right", name)
		}
	}
	for name, k := range wrongKnowns() {
		if impl.KnownOk(k) {
			t.Errorf("%s: right", name)
		}
	}
}

func TestAnyTwoAlike(t *testing.T) {
	for second := range impl.MaxKnown {
		for first := range second {
			terms := keyTermsFrom(1, impl.MaxKnown)
			terms[second] = terms[first]
			if impl.KnownOk(knows(terms)) {
				t.Fatalf("right, though %d and %d are alike", first, second)
			}
		}
	}
	for second := range impl.MaxKeys {
		for first := range second {
			keys := numbersFrom(1, impl.MaxKeys)
			keys[second], keys[first] = keys[first], keys[second]
			if impl.KnownOk(knows(nil, keys...)) {
				t.Fatalf("right, though %d and %d are turned round", first, second)
			}
		}
	}
}

func TestNothingOfWhatIsNotRight(t *testing.T) {
	for name, k := range wrongKnowns() {
		if got := impl.Learn(k, "a\x00"); got.Terms != nil || got.Keys != nil {
			t.Errorf("%s: Learn = %#v", name, got)
		}
		if got := impl.LearnKey(k, 9); got.Terms != nil || got.Keys != nil {
			t.Errorf("%s: LearnKey = %#v", name, got)
		}
		if got := impl.Reach(k); len(got) != 0 {
			t.Errorf("%s: Reach = %v", name, got)
		}
		for _, s := range append(someTerms(), key(7), key(8), list(key(7)), impl.Seal(7, key(8)), "", "x") {
			if impl.Sees(k, s) || impl.Build(k, s) {
				t.Errorf("%s: %q is seen or can be put together", name, s)
			}
		}
	}
}

func TestNothingKnown(t *testing.T) {
	for _, k := range []impl.Known{{}, {Terms: []string{}, Keys: []int{}}} {
		checkKnown(t, k, append(someTerms(), "", "x", list("a\x00", "l\x00"), impl.Seal(1, "a\x00")))
		if len(impl.Reach(k)) != 0 || impl.Sees(k, "a\x00") || !impl.Build(k, "a\x00") || !impl.Build(k, "l\x00") || impl.Build(k, "k\x01") {
			t.Error("of nothing more than atoms and lists of them is put together")
		}
	}
}

func checkLearned(t *testing.T, what string, got, want impl.Known) {
	t.Helper()
	if !slices.Equal(got.Terms, want.Terms) || !slices.Equal(got.Keys, want.Keys) {
		t.Errorf("%s = %#v, want %#v", what, got, want)
	}
}

func TestLearn(t *testing.T) {
	k := impl.Known{}
	for i, s := range someTerms() {
		k = impl.Learn(k, s)
		checkLearned(t, "Learn of one more", k, knows(someTerms()[:i+1]))
	}
	k.Keys = []int{3, 9}
	checkLearned(t, "Learn beside keys", impl.Learn(k, key(77)), knows(append(someTerms(), key(77)), 3, 9))
	for _, s := range append(someTerms(), "", "x", "a\x02x", "k\x00", "k\x01x", "l\x01x", listOfBytes(901), sealedTimes("a\x00", 8)) {
		checkLearned(t, "Learn of no more", impl.Learn(k, s), k)
	}
	// Not what is seen counts, but what is there.
	inner := knows([]string{list(key(5), key(6))}, 5)
	checkLearned(t, "Learn of a part", impl.Learn(inner, key(6)), knows([]string{list(key(5), key(6)), key(6)}, 5))
	checkLearned(t, "Learn of a key that is known", impl.Learn(inner, key(5)), knows([]string{list(key(5), key(6)), key(5)}, 5))
	for count := 57; count <= 59; count++ {
		terms := keyTermsFrom(1, count)
		checkLearned(t, "Learn with room", impl.Learn(knows(terms), "a\x00"), knows(append(slices.Clone(terms), "a\x00")))
	}
	full := knows(keyTermsFrom(1, 60), 8)
	checkLearned(t, "Learn without room", impl.Learn(full, "a\x00"), full)
	checkLearned(t, "Learn of what is there without room", impl.Learn(full, key(3)), full)
	keys := knows(nil, numbersFrom(1, 40)...)
	checkLearned(t, "Learn with all keys", impl.Learn(keys, "a\x00"), knows([]string{"a\x00"}, numbersFrom(1, 40)...))
}

func TestLearnKey(t *testing.T) {
	terms := []string{key(4), "a\x00"}
	for _, x := range []struct {
		keys []int
		key  int
		want []int
	}{
		{nil, 1, []int{1}},
		{nil, impl.MaxKey, []int{impl.MaxKey}},
		{nil, 4, []int{4}},
		{[]int{5}, 4, []int{4, 5}},
		{[]int{5}, 6, []int{5, 6}},
		{[]int{2, 5, 9}, 1, []int{1, 2, 5, 9}},
		{[]int{2, 5, 9}, 3, []int{2, 3, 5, 9}},
		{[]int{2, 5, 9}, 8, []int{2, 5, 8, 9}},
		{[]int{2, 5, 9}, 10, []int{2, 5, 9, 10}},
		{[]int{2, 5, 9}, impl.MaxKey, []int{2, 5, 9, impl.MaxKey}},
		{[]int{2, 5, 9}, 2, []int{2, 5, 9}},
		{[]int{2, 5, 9}, 5, []int{2, 5, 9}},
		{[]int{2, 5, 9}, 9, []int{2, 5, 9}},
		{[]int{2, 5, 9}, 0, []int{2, 5, 9}},
		{[]int{2, 5, 9}, -1, []int{2, 5, 9}},
		{[]int{2, 5, 9}, math.MinInt, []int{2, 5, 9}},
		{[]int{2, 5, 9}, impl.MaxKey + 1, []int{2, 5, 9}},
		{[]int{2, 5, 9}, math.MaxInt, []int{2, 5, 9}},
		{[]int{impl.MaxKey}, impl.MaxKey, []int{impl.MaxKey}},
		{numbersFrom(2, 39), 1, numbersFrom(1, 40)},
		{numbersFrom(1, 39), 40, numbersFrom(1, 40)},
		{numbersFrom(2, 40), 1, numbersFrom(2, 40)},
		{numbersFrom(1, 40), 41, numbersFrom(1, 40)},
		{numbersFrom(1, 40), 20, numbersFrom(1, 40)},
	} {
		checkLearned(t, "LearnKey", impl.LearnKey(knows(terms, x.keys...), x.key), knows(terms, x.want...))
	}
	full := keyTermsFrom(1, 60)
	checkLearned(t, "LearnKey with all terms", impl.LearnKey(knows(full), 3), knows(full, 3))
}

func TestReach(t *testing.T) {
	for _, x := range []struct {
		name  string
		terms []string
		keys  []int
		want  []int
	}{
		{"keys alone", nil, []int{1, 9, impl.MaxKey}, []int{1, 9, impl.MaxKey}},
		{"a key as a term", []string{key(impl.MaxKey), key(3)}, []int{5}, []int{3, 5, impl.MaxKey}},
		{"a key that is known and seen", []string{key(3), list(key(3), key(3))}, []int{3}, []int{3}},
		{"no key in an atom", []string{impl.Atom(key(3))}, nil, nil},
		{"in a list", []string{list("a\x00", key(3), list(list(key(2))))}, nil, []int{2, 3}},
		{"behind a key that is known", []string{impl.Seal(1, key(2))}, []int{1}, []int{1, 2}},
		{"behind a key that is not", []string{impl.Seal(1, key(2))}, []int{3}, []int{3}},
		{"behind a key that is sealed only", []string{impl.Seal(1, key(2)), impl.Seal(2, key(1))}, nil, nil},
		{"behind itself", []string{impl.Seal(1, key(1))}, nil, nil},
		{"round about", []string{impl.Seal(1, key(2)), impl.Seal(2, key(3)), impl.Seal(3, key(1))}, []int{3}, []int{1, 2, 3}},
		{"behind a key beside it", []string{list(impl.Seal(1, key(2)), key(1))}, nil, []int{1, 2}},
		{"twice sealed, both known", []string{impl.Seal(1, impl.Seal(2, key(3)))}, []int{1, 2}, []int{1, 2, 3}},
		{"twice sealed, the inner known", []string{impl.Seal(1, impl.Seal(2, key(3)))}, []int{2}, []int{2}},
		{"twice sealed, the outer known", []string{impl.Seal(1, impl.Seal(2, key(3)))}, []int{1}, []int{1}},
		{"two behind one key", []string{impl.Seal(1, key(2)), impl.Seal(1, key(3)), list(key(1))}, nil, []int{1, 2, 3}},
		{"as deep as it goes", []string{sealedTimes(key(9), 7)}, []int{1}, []int{1, 9}},
	} {
		k := knows(x.terms, x.keys...)
		if got := impl.Reach(k); !slices.Equal(got, x.want) {
			t.Errorf("%s: Reach = %v, want %v", x.name, got, x.want)
		}
		checkKnown(t, k, someTerms())
	}
}

// orders says each order of the texts.
func orders(texts []string, say func([]string)) {
	var put func(ahead, left []string)
	put = func(ahead, left []string) {
		if len(left) == 0 {
			say(ahead)
		}
		for i := range left {
			put(append(slices.Clone(ahead), left[i]), slices.Delete(slices.Clone(left), i, i+1))
		}
	}
	put(nil, texts)
}

func TestChainsInEachOrder(t *testing.T) {
	chain := []string{impl.Seal(1, key(2)), impl.Seal(2, key(3)), impl.Seal(3, list("a\x00", key(4))), impl.Seal(4, impl.Seal(2, key(5))), impl.Seal(5, "a\x01x")}
	for first, want := range [][]int{1: {1, 2, 3, 4, 5}, 2: {2, 3, 4, 5}, 3: {3, 4}, 4: {4}, 5: {5}, 6: {6}} {
		orders(chain, func(terms []string) {
			ways := []impl.Known{knows(terms)}
			if first > 0 {
				ways = []impl.Known{
					knows(terms, first),
					knows(append(slices.Clone(terms), key(first))),
					knows(append([]string{key(first)}, terms...)),
					knows([]string{impl.List(terms), list(key(first))}),
				}
			}
			for _, k := range ways {
				if got := impl.Reach(k); !slices.Equal(got, want) {
					t.Fatalf("Reach(%#v) = %v, want %v", k, got, want)
				}
				if impl.Sees(k, "a\x01x") != slices.Contains(want, 5) {
					t.Fatalf("Sees(%#v) of what the last key is for", k)
				}
			}
		})
	}
}

func TestKeysHiddenDeeperInEachOrder(t *testing.T) {
	hidden := []string{impl.Seal(1, list(key(2))), list(impl.Seal(2, impl.Seal(3, key(4))), impl.Seal(1, impl.Seal(2, key(3)))), impl.Seal(3, key(1))}
	asked := []string{key(4), impl.Seal(4, key(4)), impl.Seal(3, key(4)), impl.Seal(2, key(3))}
	for first := range 7 {
		orders(hidden, func(terms []string) {
			checkKnown(t, impl.LearnKey(knows(terms), first), asked)
		})
	}
}

func TestLongestChain(t *testing.T) {
	terms := []string{}
	for n := 60; n >= 1; n-- {
		terms = append(terms, impl.Seal(n, key(n+1)))
	}
	if got := impl.Reach(knows(terms)); len(got) != 0 {
		t.Errorf("without a key: %v", got)
	}
	if got := impl.Reach(knows(terms, 1)); !slices.Equal(got, numbersFrom(1, 61)) {
		t.Errorf("with the first key: %v", got)
	}
	if got := impl.Reach(knows(terms, 2)); !slices.Equal(got, numbersFrom(2, 60)) {
		t.Errorf("with the second key: %v", got)
	}
}

func TestGreatestChain(t *testing.T) {
	// Terms as full as they can be: each key stands behind the one below it, the last one first.
	const last = impl.MaxKnown*impl.MaxParts*impl.MaxParts + 1
	terms := []string{}
	n := last
	for range impl.MaxKnown {
		lists := []string{}
		for range impl.MaxParts {
			parts := []string{}
			for range impl.MaxParts {
				n--
				parts = append(parts, impl.Seal(n, key(n+1)))
			}
			lists = append(lists, impl.List(parts))
		}
		terms = append(terms, impl.List(lists))
	}
	k := knows(terms, 1)
	if got := impl.Reach(k); !slices.Equal(got, numbersFrom(1, last)) {
		t.Errorf("Reach tells %d keys", len(got))
	}
	if !impl.Sees(k, key(last)) || !impl.Build(k, impl.Seal(last, key(1))) || impl.Build(k, key(last+1)) {
		t.Error("the end of the chain")
	}
	if got := impl.Reach(knows(terms, 2)); !slices.Equal(got, numbersFrom(2, last-1)) {
		t.Errorf("from the second key on Reach tells %d keys", len(got))
	}
}

func TestSees(t *testing.T) {
	in := list(key(2), "a\x01x", list("a\x01y"), impl.Seal(2, "a\x01z"), impl.Seal(3, "a\x01w"))
	k := knows([]string{"a\x01v", impl.Seal(1, in)}, 1, 9)
	for _, x := range []struct {
		s  string
		is bool
	}{
		{"a\x01v", true}, {impl.Seal(1, in), true}, {in, true}, {key(2), true}, {"a\x01x", true}, {list("a\x01y"), true},
		{"a\x01y", true}, {impl.Seal(2, "a\x01z"), true}, {"a\x01z", true}, {impl.Seal(3, "a\x01w"), true},
		{"a\x01w", false}, {key(1), false}, {key(9), false}, {key(3), false}, {"a\x00", false}, {"l\x00", false},
		{impl.Seal(1, "a\x01z"), false}, {list("a\x01x", "a\x01y"), false}, {"", false}, {"v", false}, {"x", false}, {"a\x01", false}, {"a\x01vx", false},
		{impl.Seal(1, in)[:5], false},
	} {
		if got := impl.Sees(k, x.s); got != x.is {
			t.Errorf("Sees of %q = %v", x.s, got)
		}
	}
	shut := impl.Known{Terms: k.Terms}
	if impl.Sees(shut, in) || impl.Sees(shut, "a\x01x") || !impl.Sees(shut, impl.Seal(1, in)) {
		t.Error("what is sealed is seen without its key")
	}
}

func TestBuild(t *testing.T) {
	in := list(key(2), impl.Seal(3, "a\x01w"), impl.Seal(4, key(5)))
	k := knows([]string{impl.Seal(1, in), impl.Seal(6, key(7))}, 1, 9)
	for _, x := range []struct {
		s  string
		is bool
	}{
		{"a\x00", true}, {impl.Atom(allBytes()[:40]), true}, {impl.Atom(key(4)), true},
		{key(1), true}, {key(2), true}, {key(9), true}, {key(3), false}, {key(5), false}, {key(6), false}, {key(7), false},
		{"l\x00", true}, {list("a\x00", key(2), list(key(9))), true}, {list(key(2), key(3)), false}, {list(key(3), key(2)), false}, {list(list(list(key(5)))), false},
		{in, true}, {impl.Seal(1, in), true}, {impl.Seal(2, in), true}, {impl.Seal(3, in), false},
		{impl.Seal(1, "a\x00"), true}, {impl.Seal(9, impl.Seal(2, key(1))), true}, {impl.Seal(1, key(3)), false},
		{impl.Seal(3, "a\x01w"), true}, {impl.Seal(3, "a\x01v"), false}, {impl.Seal(4, key(5)), true}, {impl.Seal(4, key(2)), false},
		{impl.Seal(6, key(7)), true}, {impl.Seal(6, key(1)), false},
		{list(impl.Seal(3, "a\x01w"), impl.Seal(6, key(7))), true}, {list(impl.Seal(3, "a\x00")), false}, {impl.Seal(2, impl.Seal(3, "a\x01w")), true},
		{sealedTimes("a\x00", 7), true}, {sealedTimes("a\x00", 8), false}, {listOfBytes(900), true}, {listOfBytes(901), false},
		{"", false}, {"x", false}, {"a", false}, {"a\x02x", false}, {"k\x00", false}, {"k\x01k\x01", false}, {"l\x01", false}, {"s\x01", false}, {"s\x01x", false},
	} {
		if got := impl.Build(k, x.s); got != x.is {
			t.Errorf("Build of %q = %v", x.s, got)
		}
	}
}

func TestEveryKnownOfFewTerms(t *testing.T) {
	pool := []string{key(1), impl.Seal(1, key(2)), impl.Seal(2, list(key(3), "a\x00")), list("a\x01x", impl.Seal(3, key(1))), impl.Seal(1, impl.Seal(2, key(4))), impl.Seal(4, impl.Seal(4, "a\x01x"))}
	asked := append(slices.Clone(pool), key(2), key(4), list(key(3), key(4)), impl.Seal(3, key(2)), impl.Seal(4, "a\x01x"), impl.Seal(2, key(4)), "x")
	for choice := range 1 << len(pool) {
		terms := []string{}
		for i, s := range pool {
			if choice>>i&1 == 1 {
				terms = append(terms, s)
			}
		}
		for _, keys := range [][]int{nil, {1}, {2}, {3}, {4}, {2, 3}, {1, 4}} {
			checkKnown(t, knows(terms, keys...), asked)
			slices.Reverse(terms)
		}
	}
}

// A term of few keys and atoms, so that what comes to be seen often fits what is sealed.
func anyTerm(r *rand.Rand, depth int) string {
	kind := r.Intn(4)
	if depth == 1 {
		kind = r.Intn(2)
	}
	switch kind {
	case 0:
		return impl.Atom(strings.Repeat("x", r.Intn(2)))
	case 1:
		return key(1 + r.Intn(6))
	case 2:
		parts := []string{}
		for range r.Intn(4) {
			parts = append(parts, anyTerm(r, depth-1))
		}
		return impl.List(parts)
	}
	return impl.Seal(1+r.Intn(6), anyTerm(r, depth-1))
}

func TestKnownOfAnyTerms(t *testing.T) {
	r := rand.New(rand.NewSource(3))
	for range 1500 {
		k := impl.Known{}
		for range r.Intn(6) {
			k = impl.Learn(k, impl.Seal(1+r.Intn(6), anyTerm(r, 5)))
		}
		for range r.Intn(3) {
			k = impl.LearnKey(k, 1+r.Intn(6))
		}
		asked := []string{}
		for s := range plainViewOf(impl.Known{Terms: k.Terms, Keys: numbersFrom(1, 6)}).seen {
			asked = append(asked, s)
		}
		for range 10 {
			asked = append(asked, anyTerm(r, 4))
		}
		checkKnown(t, k, asked)
	}
}

func TestKnownLeavesWhatItIsHanded(t *testing.T) {
	terms := []string{list(key(2), key(3)), impl.Seal(2, key(4)), "spare", "room"}
	keys := []int{5, 8, -1, -2}
	k := knows(terms[:2], keys[:2]...)
	for _, s := range []string{key(4), terms[0], "x"} {
		impl.KnownOk(k)
		impl.Learn(k, s)
		impl.Reach(k)
		impl.Sees(k, s)
		impl.Build(k, s)
	}
	for _, n := range []int{1, 5, 6, 9, 0} {
		impl.LearnKey(k, n)
	}
	if !slices.Equal(terms, []string{"l\x02k\x02k\x03", "s\x02k\x04", "spare", "room"}) || !slices.Equal(keys, []int{5, 8, -1, -2}) {
		t.Errorf("written into: %q, %v", terms, keys)
	}
}

func TestKnownAnswersNewMemory(t *testing.T) {
	terms := append(make([]string, 0, 9), key(2), "a\x00")
	keys := append(make([]int, 0, 9), 5, 8)
	k := impl.Known{Terms: terms, Keys: keys}
	answers := []impl.Known{impl.Learn(k, key(3)), impl.Learn(k, key(2)), impl.Learn(k, "x"), impl.LearnKey(k, 9), impl.LearnKey(k, 1), impl.LearnKey(k, 5), impl.LearnKey(k, 0)}
	for _, got := range answers {
		for i := range got.Terms {
			got.Terms[i] = "other"
		}
		for i := range got.Keys {
			got.Keys[i] = 99
		}
		_, _ = append(got.Terms, "more"), append(got.Keys, 77)
	}
	reached := impl.Reach(knows(nil, keys...))
	reached[0] = 77
	reached = impl.Reach(k)
	reached[0] = 77
	if !slices.Equal(terms, []string{key(2), "a\x00"}) || !slices.Equal(keys, []int{5, 8}) {
		t.Errorf("an answer shares what was handed in: %q, %v", terms, keys)
	}
	if !slices.Equal(terms[:3], []string{key(2), "a\x00", ""}) || !slices.Equal(keys[:3], []int{5, 8, 0}) {
		t.Errorf("an answer shares the room behind: %q, %v", terms[:3], keys[:3])
	}
	if got := impl.Reach(k); !slices.Equal(got, []int{2, 5, 8}) {
		t.Errorf("Reach again = %v", got)
	}
}
