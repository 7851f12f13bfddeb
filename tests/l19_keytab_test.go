package tests

import (
	"math"
	"math/rand"
	"slices"
	"strings"
	"testing"

	"loop.example/g00769/impl"
)

func slot(who, ver, key int) impl.Slot { return impl.Slot{Who: who, Ver: ver, Key: key} }

func tab(slots ...impl.Slot) []impl.Slot { return slots }

// versions are slots of who, with these Vers, and with Keys from key on.
func versions(who, key int, vers ...int) []impl.Slot {
	var l []impl.Slot
	for i, ver := range vers {
		l = append(l, slot(who, ver, key+i))
	}
	return l
}

// Tables by plain words: what the tests hold the program's answers against.

func plainSlotOk(x impl.Slot) bool {
	return x.Who >= 0 && x.Who <= 99 && x.Ver >= 1 && x.Ver <= 1000 && x.Key >= 1 && x.Key <= 1000000
}

func plainTabOk(l []impl.Slot) bool {
	if len(l) > 20 {
		return false
	}
	for i, x := range l {
		if !plainSlotOk(x) {
			return false
		}
		for _, y := range l[:i] {
			if y.Key == x.Key || y.Who > x.Who || y.Who == x.Who && y.Ver >= x.Ver {
				return false
			}
		}
	}
	return true
}

// plainVers are the Vers of who in a table that is right.
func plainVers(l []impl.Slot, who int) []int {
	var vers []int
	for _, x := range l {
		if x.Who == who {
			vers = append(vers, x.Ver)
		}
	}
	return vers
}

func plainTabAdd(l []impl.Slot, who, key int) ([]impl.Slot, bool) {
	if !plainTabOk(l) {
		return nil, false
	}
	last := 0
	for _, ver := range plainVers(l, who) {
		last = ver
	}
	hasKey := slices.ContainsFunc(l, func(x impl.Slot) bool { return x.Key == key })
	if who < 0 || who > 99 || key < 1 || key > 1000000 || hasKey || len(l) == 20 || last == 1000 {
		return l, false
	}
	var more []impl.Slot
	for _, x := range l {
		if x.Who <= who {
			more = append(more, x)
		}
	}
	more = append(more, slot(who, last+1, key))
	for _, x := range l {
		if x.Who > who {
			more = append(more, x)
		}
	}
	return more, true
}

func plainTabNow(l []impl.Slot, who int) (impl.Slot, bool) {
	now := impl.Slot{}
	for _, x := range l {
		if x.Who == who && x.Ver > now.Ver {
			now = x
		}
	}
	if !plainTabOk(l) || now.Ver == 0 {
		return impl.Slot{}, false
	}
	return now, true
}

func plainTabFind(l []impl.Slot, who, ver int) (int, bool) {
	for _, x := range l {
		if x.Who == who && x.Ver == ver && plainTabOk(l) {
			return x.Key, true
		}
	}
	return 0, false
}

// plainTabKeep keeps each slot of whose Who there are fewer than n with greater Vers.
func plainTabKeep(l []impl.Slot, n int) []impl.Slot {
	if !plainTabOk(l) {
		return nil
	}
	var kept []impl.Slot
	for _, x := range l {
		greater := 0
		for _, ver := range plainVers(l, x.Who) {
			if ver > x.Ver {
				greater++
			}
		}
		if greater < n {
			kept = append(kept, x)
		}
	}
	return kept
}

func plainShowTab(l []impl.Slot) string {
	if !plainTabOk(l) {
		return ""
	}
	return rawTab(l)
}

// rawTab is the text of any slots of numbers from 0 to below 2 to the 21, right or not.
func rawTab(l []impl.Slot) string {
	s := plainLength(len(l))
	for _, x := range l {
		s += plainLength(x.Who) + plainLength(x.Ver) + plainLength(x.Key)
	}
	return s
}

// plainReadTab has all numbers of a text first, and then goes through these.
func plainReadTab(s string) ([]impl.Slot, bool) {
	var numbers []int
	for len(s) > 0 {
		n, used := plainReadLength(s)
		if used == 0 || len(numbers) > 100 {
			return nil, false
		}
		numbers, s = append(numbers, n), s[used:]
	}
	if len(numbers) == 0 || numbers[0] > 20 || len(numbers) != 1+3*numbers[0] {
		return nil, false
	}
	var l []impl.Slot
	for three := range slices.Chunk(numbers[1:], 3) {
		l = append(l, slot(three[0], three[1], three[2]))
	}
	if !plainTabOk(l) {
		return nil, false
	}
	return l, true
}

// tabWithRoom is the table with spare room behind it, and a question whether that and the slots are as they were.
func tabWithRoom(l []impl.Slot) ([]impl.Slot, func() bool) {
	var asked []func() bool
	l = roomBehind(&asked, l, slot(-7, -8, -9))
	return l, asked[0]
}

func checkTabsApart(t *testing.T, what string, got []impl.Slot, handed []impl.Slot) {
	t.Helper()
	var answered, given memories
	addList(&answered, "slots", got)
	addList(&given, "the table", handed)
	checkApart(t, what, answered, given)
}

// checkTab holds what is said, shown and found of a table against plain words; asks that it is not changed, and that it is read back where it is right.
func checkTab(t *testing.T, what string, l []impl.Slot) bool {
	t.Helper()
	handed, asItWas := tabWithRoom(l)
	right, shown := impl.TabOk(handed), impl.ShowTab(handed)
	if want := plainTabOk(l); right != want {
		t.Fatalf("%s: TabOk(%v) = %v", what, l, right)
	}
	if want := plainShowTab(l); shown != want {
		t.Fatalf("%s: ShowTab(%v) = %q, not %q", what, l, shown, want)
	}
	if right {
		checkReadTab(t, what, shown, l, true)
	}
	for _, x := range l[:min(len(l), 21)] {
		checkNow(t, what, l, x.Who)
		checkTabFind(t, what, l, x.Who, x.Ver)
	}
	if !asItWas() {
		t.Fatalf("%s: %v was changed", what, l)
	}
	return right
}

func checkTabOk(t *testing.T, what string, want bool, l []impl.Slot) {
	t.Helper()
	if got := checkTab(t, what, l); got != want {
		t.Errorf("%s: TabOk(%v) = %v", what, l, got)
	}
	if want {
		return
	}
	for _, who := range []int{-1, 0, 1, 5, 50, 99, 100} {
		for _, key := range []int{0, 1, 77, 1000000, 1000001} {
			if got := checkAdd(t, what, l, who, key, false); len(got) != 0 {
				t.Errorf("%s: TabAdd(%v, %d, %d) = %v", what, l, who, key, got)
			}
		}
	}
	for _, n := range []int{math.MinInt, -1, 0, 1, 20, math.MaxInt} {
		if got := checkKeep(t, what, l, n); len(got) != 0 {
			t.Errorf("%s: TabKeep(%v, %d) = %v", what, l, n, got)
		}
	}
	for _, x := range append(l[:min(len(l), 21):min(len(l), 21)], slot(0, 0, 0), slot(1, 1, 1)) {
		now, isNow := impl.TabNow(l, x.Who)
		key, isFound := impl.TabFind(l, x.Who, x.Ver)
		if now != (impl.Slot{}) || isNow || key != 0 || isFound {
			t.Errorf("%s: of %v, TabNow of %d is %v, %v, TabFind of %v %d, %v", what, l, x.Who, now, isNow, x, key, isFound)
		}
	}
}

// checkAdd asks, too, for promise 19: what is added is TabNow, all ahead of it is found, as long as it is kept.
func checkAdd(t *testing.T, what string, l []impl.Slot, who, key int, wantOk bool) []impl.Slot {
	t.Helper()
	want, plain := plainTabAdd(l, who, key)
	if plain != wantOk {
		t.Fatalf("%s: the chapter says of %v with %d, %d: %v", what, l, who, key, plain)
	}
	handed, asItWas := tabWithRoom(l)
	got, ok := impl.TabAdd(handed, who, key)
	if ok != wantOk || !slices.Equal(got, want) {
		t.Fatalf("%s: TabAdd(%v, %d, %d) = %v, %v, not %v, %v", what, l, who, key, got, ok, want, wantOk)
	}
	checkTabsApart(t, what, got, handed)
	if ok {
		checkAdded(t, what, l, got, who, key)
	}
	if !asItWas() {
		t.Fatalf("%s: %v was changed", what, l)
	}
	return got
}

// checkAdded is of a table that is right, and of what it is with a key more.
func checkAdded(t *testing.T, what string, ahead, more []impl.Slot, who, key int) {
	t.Helper()
	now, ok := impl.TabNow(more, who)
	if !impl.TabOk(more) || !ok || now.Who != who || now.Key != key {
		t.Fatalf("%s: %d is added for %d, but of %v TabNow is %v, %v", what, key, who, more, now, ok)
	}
	for n := 1; n <= 21; n++ {
		kept := impl.TabKeep(more, n)
		if last, ok := impl.TabNow(kept, who); !ok || last != now {
			t.Fatalf("%s: %v is added, but of %v, that is kept of %v, TabNow is %v, %v", what, now, kept, more, last, ok)
		}
		for _, x := range ahead {
			found, ok := impl.TabFind(kept, x.Who, x.Ver)
			if isKept := slices.Contains(kept, x); ok != isKept || isKept && found != x.Key || n > len(ahead) && !isKept {
				t.Fatalf("%s: behind %v, with %d kept of each as %v, TabFind of %v is %d, %v", what, now, n, kept, x, found, ok)
			}
		}
	}
}

func checkNow(t *testing.T, what string, l []impl.Slot, who int) bool {
	t.Helper()
	handed, asItWas := tabWithRoom(l)
	got, ok := impl.TabNow(handed, who)
	if want, wantOk := plainTabNow(l, who); ok != wantOk || got != want {
		t.Fatalf("%s: TabNow(%v, %d) = %v, %v, not %v, %v", what, l, who, got, ok, want, wantOk)
	}
	if !asItWas() {
		t.Fatalf("%s: %v was changed", what, l)
	}
	return ok
}

func checkTabFind(t *testing.T, what string, l []impl.Slot, who, ver int) bool {
	t.Helper()
	handed, asItWas := tabWithRoom(l)
	got, ok := impl.TabFind(handed, who, ver)
	if want, wantOk := plainTabFind(l, who, ver); ok != wantOk || got != want {
		t.Fatalf("%s: TabFind(%v, %d, %d) = %d, %v, not %d, %v", what, l, who, ver, got, ok, want, wantOk)
	}
	if !asItWas() {
		t.Fatalf("%s: %v was changed", what, l)
	}
	return ok
}

// checkKeep asks, too, that what is kept of a table that is right is right again, that it is found, and that what is not kept is not.
func checkKeep(t *testing.T, what string, l []impl.Slot, n int) []impl.Slot {
	t.Helper()
	handed, asItWas := tabWithRoom(l)
	got := impl.TabKeep(handed, n)
	if want := plainTabKeep(l, n); !slices.Equal(got, want) {
		t.Fatalf("%s: TabKeep(%v, %d) = %v, not %v", what, l, n, got, want)
	}
	checkTabsApart(t, what, got, handed)
	if !impl.TabOk(got) {
		t.Fatalf("%s: TabKeep(%v, %d) = %v is not right", what, l, n, got)
	}
	for _, x := range l[:min(len(l), 21)] {
		key, ok := impl.TabFind(got, x.Who, x.Ver)
		if isKept := slices.Contains(got, x); ok != isKept || isKept && key != x.Key || !isKept && key != 0 {
			t.Fatalf("%s: of %v, that is kept of %v, TabFind of %v is %d, %v", what, got, l, x, key, ok)
		}
	}
	if !asItWas() {
		t.Fatalf("%s: %v was changed", what, l)
	}
	return got
}

func checkReadTab(t *testing.T, what, s string, want []impl.Slot, wantOk bool) {
	t.Helper()
	got, ok := impl.ReadTab(s)
	if ok != wantOk || !slices.Equal(got, want) {
		t.Fatalf("%s: ReadTab(%q) = %v, %v, not %v, %v", what, s, got, ok, want, wantOk)
	}
	if ok && (impl.ShowTab(got) != s || !impl.TabOk(got)) {
		t.Fatalf("%s: %q is read as %v, which is shown as %q", what, s, got, impl.ShowTab(got))
	}
	// A text of its own for each answer.
	overwritten(got, slot(-7, -8, -9))
	again, ok := impl.ReadTab(s)
	if ok != wantOk || !slices.Equal(again, want) {
		t.Fatalf("%s: ReadTab(%q) is %v, %v once more, not %v, %v", what, s, again, ok, want, wantOk)
	}
}

// checkAnyTabText holds what is read of any text against plain words, and says whether it is taken.
func checkAnyTabText(t *testing.T, what, s string) bool {
	t.Helper()
	want, ok := plainReadTab(s)
	checkReadTab(t, what, s, want, ok)
	return ok
}

// fullTab is 20 slots of 4 Whos, with gaps among their Vers.
func fullTab() []impl.Slot {
	return slices.Concat(versions(0, 100, 1, 2, 3, 4, 5), versions(7, 200, 3, 9, 10, 11, 500), versions(50, 300, 996, 997, 998, 999, 1000), versions(99, 999996, 2, 4, 6, 8, 10))
}

func someTabs() [][]impl.Slot {
	return [][]impl.Slot{
		{},
		tab(slot(0, 1, 1)), tab(slot(99, 1000, 1000000)), tab(slot(5, 7, 9)),
		tab(slot(1, 1, 60), slot(3, 1, 50), slot(3, 2, 70)),
		slices.Concat(versions(2, 10, 3, 4, 9), versions(5, 5, 1), versions(6, 20, 998, 999)),
		slices.Concat(versions(0, 10, 2, 1000), versions(99, 5, 1, 1000)),
		versions(4, 30, numbersFrom(1, 20)...),
		versions(4, 30, numbersFrom(981, 20)...),
		fullTab(), fullTab()[:19],
	}
}

// oneEach is a slot of each of so many Whos.
func oneEach(count int) []impl.Slot {
	var l []impl.Slot
	for who := range count {
		l = append(l, slot(who, 1, who+1))
	}
	return l
}

// Slots that are not right, each for one reason alone.
func wrongSlots() map[string]impl.Slot {
	wrong := map[string]impl.Slot{"the zero one": {}, "all -1": slot(-1, -1, -1)}
	for what, who := range map[string]int{"-1": -1, "100": 100, "101": 101, "1000": 1000, "5 in 8 bits": 256 + 5, "5 in 32 bits": 1<<32 + 5, "as great as an int goes": math.MaxInt, "as small as an int goes": math.MinInt} {
		wrong["Who "+what] = slot(who, 5, 77)
	}
	for what, ver := range map[string]int{"0": 0, "-1": -1, "1001": 1001, "1002": 1002, "1 in 16 bits": 1<<16 + 1, "1 in 32 bits": 1<<32 + 1, "as great as an int goes": math.MaxInt, "as small as an int goes": math.MinInt} {
		wrong["Ver "+what] = slot(5, ver, 77)
	}
	for what, key := range map[string]int{"0": 0, "-1": -1, "MaxKey + 1": 1000001, "77 in 32 bits": 1<<32 + 77, "as great as an int goes": math.MaxInt, "as small as an int goes": math.MinInt} {
		wrong["Key "+what] = slot(5, 5, key)
	}
	return wrong
}

// Tables of slots that are each right, but not together.
func wrongTabs() map[string][]impl.Slot {
	return map[string][]impl.Slot{
		"21 slots":                                    oneEach(21),
		"21 slots of one":                             versions(4, 30, numbersFrom(1, 21)...),
		"a full one and one more":                     append(fullTab(), slot(99, 11, 77)),
		"100 slots":                                   oneEach(100),
		"Whos that fall":                              tab(slot(3, 1, 50), slot(2, 1, 60)),
		"Whos that fall by much":                      tab(slot(99, 1, 50), slot(0, 1, 60)),
		"Whos that fall, though Vers rise":            tab(slot(3, 1, 50), slot(2, 2, 60)),
		"Whos that fall, though Keys rise":            tab(slot(3, 1, 1), slot(2, 1, 2)),
		"Whos that fall at the end":                   tab(slot(1, 1, 1), slot(2, 1, 2), slot(4, 1, 3), slot(3, 1, 4)),
		"a Who that comes back":                       tab(slot(1, 1, 1), slot(2, 1, 2), slot(1, 2, 3)),
		"a Who that comes back, falling":              tab(slot(1, 2, 1), slot(2, 1, 2), slot(1, 1, 3)),
		"Vers that fall":                              tab(slot(3, 2, 50), slot(3, 1, 60)),
		"Vers that fall, though Keys rise":            tab(slot(3, 1000, 1), slot(3, 1, 2)),
		"Vers that fall in the second":                tab(slot(1, 1, 1), slot(3, 5, 50), slot(3, 4, 60)),
		"Vers that fall at the end":                   versions(3, 10, 1, 2, 3, 5, 4),
		"Vers that fall ahead":                        versions(3, 10, 2, 1, 3, 4, 5),
		"the same Who and Ver twice":                  tab(slot(3, 1, 50), slot(3, 1, 60)),
		"the same Who and Ver, Keys fall":             tab(slot(3, 1, 60), slot(3, 1, 50)),
		"the same Who and Ver at the end":             versions(3, 10, 1, 2, 1000, 1000),
		"the same Who and Ver, another between":       versions(3, 10, 1, 2, 1),
		"the same slot twice":                         tab(slot(3, 1, 50), slot(3, 1, 50)),
		"0 and 1, twice":                              tab(slot(0, 1, 1), slot(0, 1, 2)),
		"a Key twice in one Who":                      tab(slot(3, 1, 50), slot(3, 2, 50)),
		"a Key twice in one Who, others between":      tab(slot(3, 1, 50), slot(3, 2, 60), slot(3, 3, 50)),
		"a Key twice in two Whos":                     tab(slot(1, 1, 5), slot(2, 1, 5)),
		"a Key twice in two Whos, others between":     tab(slot(1, 1, 5), slot(2, 1, 6), slot(3, 9, 5)),
		"MaxKey twice":                                tab(slot(1, 1, 1000000), slot(2, 1, 1000000)),
		"1 twice, at the ends of 20":                  append(oneEach(19), slot(99, 9, 1)),
		"all Keys alike":                              tab(slot(1, 1, 5), slot(1, 2, 5), slot(2, 1, 5), slot(9, 1, 5)),
		"a table turned round":                        reversedTab(fullTab()),
		"20 slots, two of them in each other's place": swappedTab(fullTab(), 11, 12),
	}
}

func reversedTab(l []impl.Slot) []impl.Slot {
	slices.Reverse(l)
	return l
}

func swappedTab(l []impl.Slot, i, j int) []impl.Slot {
	l[i], l[j] = l[j], l[i]
	return l
}

func TestTabConstants(t *testing.T) {
	if impl.MaxTab != 20 {
		t.Error(impl.MaxTab)
	}
}

func TestTabOk(t *testing.T) {
	checkTabOk(t, "nil", true, nil)
	for _, l := range someTabs() {
		checkTabOk(t, "some table", true, l)
	}
	for _, who := range []int{0, 1, 9, 10, 98, 99} {
		for _, ver := range []int{1, 2, 127, 128, 999, 1000} {
			for _, key := range []int{1, 2, 127, 128, 16383, 16384, 999999, 1000000} {
				checkTabOk(t, "a slot", true, tab(slot(who, ver, key)))
			}
		}
	}
	for count := range 30 {
		checkTabOk(t, "a slot of each", count <= 20, oneEach(count))
		checkTabOk(t, "slots of one", count <= 20, versions(9, 1, numbersFrom(1, count)...))
	}
	for _, c := range []struct {
		what string
		l    []impl.Slot
	}{
		{"Vers that begin above 1", versions(3, 10, 5, 6)},
		{"Vers with gaps", versions(3, 10, 1, 3, 1000)},
		{"Vers with gaps that begin above 1", versions(3, 10, 2, 500, 502)},
		{"Keys that fall", tab(slot(3, 1, 9), slot(3, 2, 8), slot(4, 1, 7))},
		{"Vers that fall from Who to Who", tab(slot(1, 1000, 9), slot(2, 1, 8), slot(3, 1, 7))},
		{"the same Ver in two Whos", tab(slot(1, 5, 9), slot(2, 5, 8))},
		{"a Key as a Who and a Ver", tab(slot(1, 1, 1), slot(2, 2, 2))},
		{"Whos with gaps", tab(slot(0, 1, 1), slot(50, 1, 2), slot(99, 1, 3))},
	} {
		checkTabOk(t, c.what, true, c.l)
	}
}

func TestTabsThatAreNotRight(t *testing.T) {
	for what, x := range wrongSlots() {
		checkTabOk(t, what, false, tab(x))
		checkTabOk(t, what+" ahead", false, append(tab(x), oneEach(3)...))
		checkTabOk(t, what+" behind", false, append(oneEach(3), x))
		// Where the other numbers rise as they should.
		checkTabOk(t, what+" between", false, tab(slot(0, 1, 1), slot(5, 4, 2), x, slot(5, 6, 3), slot(99, 1, 4)))
		checkTabOk(t, what+" as the last one of 20", false, append(versions(1, 100, numbersFrom(1, 19)...), x))
	}
	for what, l := range wrongTabs() {
		checkTabOk(t, what, false, l)
	}
	for at := range 20 {
		l := fullTab()
		l[at].Key = l[(at+7)%20].Key
		checkTabOk(t, "a full one with a Key twice", false, l)
		if at > 0 {
			checkTabOk(t, "a full one, two in each other's place", false, swappedTab(fullTab(), at-1, at))
		}
	}
}

func TestTabAdd(t *testing.T) {
	l := slices.Concat(versions(2, 10, 1), versions(5, 20, 2, 4, 9), versions(7, 30, 998, 999), versions(8, 40, 7, 1000), versions(98, 50, 1, 2))
	for _, c := range []struct {
		what     string
		who, key int
		ok       bool
		at, ver  int
	}{
		{"who that has none, ahead of all", 0, 77, true, 0, 1},
		{"who that has none, ahead of all by one", 1, 77, true, 0, 1},
		{"who that has none, among them", 3, 77, true, 1, 1},
		{"who that has none, among them, next to both", 6, 77, true, 4, 1},
		{"who that has none, behind all", 99, 77, true, 10, 1},
		{"the last Ver 1", 2, 77, true, 1, 2},
		{"gaps ahead of the last Ver", 5, 77, true, 4, 10},
		{"the last Ver 999", 7, 77, true, 6, 1000},
		{"the last Ver 1000, with a gap ahead", 8, 77, false, 0, 0},
		{"the last who", 98, 77, true, 10, 3},
		{"key 1", 98, 1, true, 10, 3},
		{"MaxKey", 98, 1000000, true, 10, 3},
		{"who -1", -1, 77, false, 0, 0},
		{"who 100", 100, 77, false, 0, 0},
		{"who that is 2 in 32 bits", 1<<32 + 2, 77, false, 0, 0},
		{"who as great as an int goes", math.MaxInt, 77, false, 0, 0},
		{"who as small as an int goes", math.MinInt, 77, false, 0, 0},
		{"key 0", 2, 0, false, 0, 0},
		{"key -1", 2, -1, false, 0, 0},
		{"MaxKey + 1", 2, 1000001, false, 0, 0},
		{"key as great as an int goes", 2, math.MaxInt, false, 0, 0},
		{"key as small as an int goes", 2, math.MinInt, false, 0, 0},
		{"key that is 77 in 32 bits", 2, 1<<32 + 77, false, 0, 0},
		{"a key that is there at this who", 2, 10, false, 0, 0},
		{"the first key of this who", 5, 20, false, 0, 0},
		{"the last key of this who", 5, 22, false, 0, 0},
		{"the key of another one ahead", 98, 10, false, 0, 0},
		{"the key of another one behind", 2, 51, false, 0, 0},
		{"the key of another one, of who that has none", 3, 30, false, 0, 0},
		{"who and key out of range", 100, 0, false, 0, 0},
		{"no Ver is left, and the key is there", 8, 10, false, 0, 0},
	} {
		got := checkAdd(t, c.what, l, c.who, c.key, c.ok)
		want := slices.Clone(l)
		if c.ok {
			want = slices.Insert(want, c.at, slot(c.who, c.ver, c.key))
		}
		if !slices.Equal(got, want) {
			t.Errorf("%s: TabAdd(%v, %d, %d) = %v, not %v", c.what, l, c.who, c.key, got, want)
		}
	}
}

func TestTabAddOfEachTable(t *testing.T) {
	for _, l := range append(someTabs(), nil) {
		for who := -2; who <= 101; who++ {
			_, ok := plainTabAdd(l, who, 777)
			checkAdd(t, "each who", l, who, 777, ok)
		}
		keys := []int{math.MinInt, -1, 0, 1, 2, 999999, 1000000, 1000001, math.MaxInt}
		for _, x := range l {
			keys = append(keys, x.Key-1, x.Key, x.Key+1)
		}
		for _, key := range keys {
			for _, who := range []int{0, 3, 4, 50, 99} {
				_, ok := plainTabAdd(l, who, key)
				checkAdd(t, "a key", l, who, key, ok)
			}
		}
	}
}

func TestTabAddWhereThereIsNoRoom(t *testing.T) {
	for count := 17; count <= 20; count++ {
		for _, l := range [][]impl.Slot{oneEach(count), versions(9, 1, numbersFrom(1, count)...), fullTab()[:count]} {
			for _, who := range []int{0, 9, 19, 50, 99} {
				_, ok := plainTabAdd(l, who, 77)
				if count == 20 && ok {
					t.Fatal("a table that is full takes more")
				}
				checkAdd(t, "nearly full", l, who, 77, ok)
			}
		}
	}
	checkAdd(t, "19 slots", oneEach(19), 0, 77, true)
	checkAdd(t, "20 slots", oneEach(20), 0, 77, false)
	checkAdd(t, "21 slots", oneEach(21), 0, 77, false)
	checkAdd(t, "20 slots, for one who has none", oneEach(20), 99, 77, false)
}

// From nothing on, key by key, for as long as there are Vers and room.
func TestTabAddAgainAndAgain(t *testing.T) {
	var l []impl.Slot
	for i := 1; i <= 20; i++ {
		l = checkAdd(t, "one who", l, 5, 100-i, true)
		if want := slot(5, i, 100-i); l[i-1] != want {
			t.Fatalf("%v is added as %v", want, l)
		}
	}
	checkAdd(t, "full", l, 5, 77, false)
	for ver := 21; ver <= 1000; ver++ {
		l = checkKeep(t, "kept", l, 3)
		l = checkAdd(t, "of three", l, 5, 1000+ver, true)
		if want := versions(5, 1000+ver-1, ver-1, ver); ver > 21 && !slices.Equal(l[2:], want) {
			t.Fatalf("behind Ver %d it is %v", ver, l)
		}
	}
	checkAdd(t, "no Ver is left", l, 5, 77, false)
	checkAdd(t, "for another one", l, 6, 77, true)
	// Where all versions are gone, they begin anew.
	l = checkKeep(t, "none kept", l, 0)
	if l = checkAdd(t, "anew", l, 5, 77, true); !slices.Equal(l, tab(slot(5, 1, 77))) {
		t.Errorf("anew it is %v", l)
	}
}

func TestTabNow(t *testing.T) {
	l := slices.Concat(versions(2, 10, 1), versions(5, 20, 2, 4, 9), versions(7, 30, 998, 999), versions(99, 50, 3))
	for _, c := range []struct {
		who  int
		want impl.Slot
		ok   bool
	}{
		{2, slot(2, 1, 10), true},
		{5, slot(5, 9, 22), true},
		{7, slot(7, 999, 31), true},
		{99, slot(99, 3, 50), true},
		{0, impl.Slot{}, false},
		{1, impl.Slot{}, false},
		{3, impl.Slot{}, false},
		{98, impl.Slot{}, false},
		{100, impl.Slot{}, false},
		{-1, impl.Slot{}, false},
		{1<<32 + 5, impl.Slot{}, false},
		{math.MaxInt, impl.Slot{}, false},
		{math.MinInt, impl.Slot{}, false},
	} {
		if got, ok := impl.TabNow(l, c.who); checkNow(t, "now", l, c.who) != c.ok || ok != c.ok || got != c.want {
			t.Errorf("TabNow(%v, %d) = %v, %v, not %v", l, c.who, got, ok, c.want)
		}
	}
	for _, l := range append(someTabs(), nil) {
		for who := -2; who <= 101; who++ {
			checkNow(t, "each who", l, who)
		}
	}
	for what, l := range wrongTabs() {
		for who := -2; who <= 101; who++ {
			if checkNow(t, what, l, who) {
				t.Errorf("%s: %v has one now", what, l)
			}
		}
	}
}

func TestTabFind(t *testing.T) {
	l := slices.Concat(versions(2, 10, 1), versions(5, 20, 2, 4, 9), versions(7, 30, 998, 999), versions(99, 50, 1000))
	for _, c := range []struct {
		what          string
		who, ver, key int
	}{
		{"the only one", 2, 1, 10},
		{"the first one", 5, 2, 20},
		{"one among them", 5, 4, 21},
		{"the last one", 5, 9, 22},
		{"Ver 998", 7, 998, 30},
		{"Ver 999", 7, 999, 31},
		{"Ver 1000", 99, 1000, 50},
		{"one that is gone, ahead of all", 5, 1, 0},
		{"one that is gone, among them", 5, 3, 0},
		{"one that is gone, next to the last one", 5, 8, 0},
		{"one past the last one", 5, 10, 0},
		{"one past the only one", 2, 2, 0},
		{"one past Ver 999", 7, 1000, 0},
		{"1001", 99, 1001, 0},
		{"0", 2, 0, 0},
		{"-1", 2, -1, 0},
		{"as great as an int goes", 2, math.MaxInt, 0},
		{"as small as an int goes", 2, math.MinInt, 0},
		{"1 in 32 bits", 2, 1<<32 + 1, 0},
		{"who that has none", 3, 1, 0},
		{"who that has none, with the Ver of the next one", 4, 2, 0},
		{"who -1", -1, 1, 0},
		{"who 100", 100, 1, 0},
		{"who that is 2 in 32 bits", 1<<32 + 2, 1, 0},
		{"who as great as an int goes", math.MaxInt, 1, 0},
		{"who as small as an int goes", math.MinInt, 1, 0},
		{"the Ver of another one", 2, 999, 0},
	} {
		if key, ok := impl.TabFind(l, c.who, c.ver); checkTabFind(t, c.what, l, c.who, c.ver) != (c.key > 0) || ok != (c.key > 0) || key != c.key {
			t.Errorf("%s: TabFind(%v, %d, %d) = %d, %v, not %d", c.what, l, c.who, c.ver, key, ok, c.key)
		}
	}
	for _, l := range append(someTabs(), nil) {
		for _, who := range []int{-1, 0, 1, 2, 3, 4, 5, 6, 7, 50, 99, 100} {
			for ver := -1; ver <= 1002; ver++ {
				checkTabFind(t, "each ver", l, who, ver)
			}
		}
	}
	for what, l := range wrongTabs() {
		for _, x := range l {
			if checkTabFind(t, what, l, x.Who, x.Ver) {
				t.Errorf("%s: in %v one is found", what, l)
			}
		}
	}
}

func TestTabKeep(t *testing.T) {
	l := slices.Concat(versions(2, 10, 1), versions(5, 20, 2, 4, 9), versions(7, 30, 998, 999), versions(99, 50, 3, 4, 5, 6, 1000))
	for _, c := range []struct {
		n    int
		want []impl.Slot
	}{
		{math.MinInt, nil},
		{-1 << 32, nil},
		{-1, nil},
		{0, nil},
		{1, tab(slot(2, 1, 10), slot(5, 9, 22), slot(7, 999, 31), slot(99, 1000, 54))},
		{2, tab(slot(2, 1, 10), slot(5, 4, 21), slot(5, 9, 22), slot(7, 998, 30), slot(7, 999, 31), slot(99, 6, 53), slot(99, 1000, 54))},
		{3, slices.Concat(l[:6], l[8:])},
		{4, slices.Concat(l[:6], l[7:])},
		{5, l},
		{6, l},
		{20, l},
		{21, l},
		{1 << 32, l},
		{1<<32 + 1, l},
		{math.MaxInt, l},
	} {
		if got := checkKeep(t, "kept", l, c.n); !slices.Equal(got, c.want) {
			t.Errorf("TabKeep(%v, %d) = %v, not %v", l, c.n, got, c.want)
		}
	}
	for _, l := range append(someTabs(), nil) {
		for n := -2; n <= 23; n++ {
			checkKeep(t, "each n", l, n)
		}
		for _, n := range []int{math.MinInt, math.MinInt + 1, math.MaxInt - 1, math.MaxInt, 1 << 31, 1 << 32, 1 << 62} {
			checkKeep(t, "very great or small", l, n)
		}
	}
}

// What is kept of what is kept is as if the lesser of both were kept.
func TestTabKeepOfWhatIsKept(t *testing.T) {
	for _, l := range someTabs() {
		for n := -1; n <= 7; n++ {
			kept := checkKeep(t, "once", l, n)
			for m := -1; m <= 7; m++ {
				if got, want := checkKeep(t, "twice", kept, m), impl.TabKeep(l, min(n, m)); !slices.Equal(got, want) {
					t.Errorf("of %v, with %d kept, and then %d, is %v, not %v", l, n, m, got, want)
				}
			}
		}
	}
}

func TestShowTab(t *testing.T) {
	for _, c := range []struct {
		l    []impl.Slot
		want string
	}{
		{nil, "\x00"},
		{tab(), "\x00"},
		{tab(slot(0, 1, 1)), "\x01\x00\x01\x01"},
		{tab(slot(1, 1, 60), slot(3, 1, 50), slot(3, 2, 70)), "\x03\x01\x01\x3c\x03\x01\x32\x03\x02\x46"},
		{tab(slot(99, 127, 127)), "\x01\x63\x7f\x7f"},
		{tab(slot(99, 128, 128)), "\x01\x63\x80\x01\x80\x01"},
		{tab(slot(99, 1000, 16383), slot(99, 1001, 16384)), ""},
		{tab(slot(98, 1000, 16383), slot(99, 1, 16384)), "\x02\x62\xe8\x07\xff\x7f\x63\x01\x80\x80\x01"},
		{tab(slot(5, 7, 1000000)), "\x01\x05\x07\xc0\x84\x3d"},
		{tab(slot(5, 7, 1000001)), ""},
		{oneEach(20), "\x14\x00\x01\x01\x01\x01\x02\x02\x01\x03\x03\x01\x04\x04\x01\x05\x05\x01\x06\x06\x01\x07\x07\x01\x08\x08\x01\x09\x09\x01\x0a\x0a\x01\x0b\x0b\x01\x0c\x0c\x01\x0d\x0d\x01\x0e\x0e\x01\x0f\x0f\x01\x10\x10\x01\x11\x11\x01\x12\x12\x01\x13\x13\x01\x14"},
		{oneEach(21), ""},
		{tab(slot(1, 1, 5), slot(2, 1, 5)), ""},
	} {
		checkTab(t, "shown", c.l)
		if got := impl.ShowTab(c.l); got != c.want {
			t.Errorf("ShowTab(%v) = %q, not %q", c.l, got, c.want)
		}
	}
}

func TestReadTab(t *testing.T) {
	for _, c := range []struct {
		what string
		s    string
		want []impl.Slot
		ok   bool
	}{
		{"the empty text", "", nil, false},
		{"no slots", "\x00", nil, true},
		{"no slots and a byte more", "\x00\x00", nil, false},
		{"one slot that is not there", "\x01", nil, false},
		{"a Who alone", "\x01\x05", nil, false},
		{"a Who and a Ver alone", "\x01\x05\x07", nil, false},
		{"a slot", "\x01\x05\x07\x09", tab(slot(5, 7, 9)), true},
		{"a slot and a byte more", "\x01\x05\x07\x09\x00", nil, false},
		{"a slot more than it says", "\x01\x05\x07\x09\x06\x07\x0a", nil, false},
		{"a slot less than it says", "\x02\x05\x07\x09", nil, false},
		{"none said, but one there", "\x00\x05\x07\x09", nil, false},
		{"says 20", "\x14" + rawTab(oneEach(20))[1:], oneEach(20), true},
		{"says 20, has 19", "\x14" + rawTab(oneEach(19))[1:], nil, false},
		{"says 19, has 20", "\x13" + rawTab(oneEach(20))[1:], nil, false},
		{"says 20, has 21", "\x14" + rawTab(oneEach(21))[1:], nil, false},
		{"says 21", rawTab(oneEach(21)), nil, false},
		{"says 21, has 20", "\x15" + rawTab(oneEach(20))[1:], nil, false},
		{"says 128", rawTab(versions(4, 1, numbersFrom(1, 128)...)), nil, false},
		{"says 1 in 32 bits", impl.Var(1<<32+1) + "\x05\x07\x09", nil, false},
		{"says MaxVar", impl.Var(impl.MaxVar) + rawTab(oneEach(20))[1:], nil, false},
		{"says MaxVar, and no more", impl.Var(impl.MaxVar), nil, false},
		{"says MaxVar, and has many", impl.Var(impl.MaxVar) + strings.Repeat("\x05\x07\x09", 1<<16), nil, false},
		{"says more than a Var can", strings.Repeat("\xff", 7) + "\x01\x05\x07\x09", nil, false},
		{"Who 0", "\x01\x00\x07\x09", tab(slot(0, 7, 9)), true},
		{"Who 99", "\x01\x63\x07\x09", tab(slot(99, 7, 9)), true},
		{"Who 100", "\x01\x64\x07\x09", nil, false},
		{"a Who of MaxVar", "\x01" + impl.Var(impl.MaxVar) + "\x07\x09", nil, false},
		{"Ver 0", "\x01\x05\x00\x09", nil, false},
		{"Ver 1", "\x01\x05\x01\x09", tab(slot(5, 1, 9)), true},
		{"Ver 1000", "\x01\x05" + impl.Var(1000) + "\x09", tab(slot(5, 1000, 9)), true},
		{"Ver 1001", "\x01\x05" + impl.Var(1001) + "\x09", nil, false},
		{"a Ver of MaxVar", "\x01\x05" + impl.Var(impl.MaxVar) + "\x09", nil, false},
		{"Key 0", "\x01\x05\x07\x00", nil, false},
		{"Key 1", "\x01\x05\x07\x01", tab(slot(5, 7, 1)), true},
		{"MaxKey", "\x01\x05\x07" + impl.Var(1000000), tab(slot(5, 7, 1000000)), true},
		{"MaxKey + 1", "\x01\x05\x07" + impl.Var(1000001), nil, false},
		{"a Key of MaxVar", "\x01\x05\x07" + impl.Var(impl.MaxVar), nil, false},
		{"the count with a byte too many", "\x81\x00\x05\x07\x09", nil, false},
		{"none, with a byte too many", "\x80\x00", nil, false},
		{"20 with a byte too many", "\x94\x00" + rawTab(oneEach(20))[1:], nil, false},
		{"Who with a byte too many", "\x01\x85\x00\x07\x09", nil, false},
		{"Ver with a byte too many", "\x01\x05\x87\x00\x09", nil, false},
		{"Key with a byte too many", "\x01\x05\x07\x89\x00", nil, false},
		{"a Key that comes no end", "\x01\x05\x07\x89", nil, false},
		{"a Who that comes no end", "\x01\x85", nil, false},
		{"bytes that are no number", strings.Repeat("\xff", 8), nil, false},
		{"many bytes", "\x01\x05\x07\x09" + strings.Repeat("\x00", 1<<20), nil, false},
	} {
		checkReadTab(t, c.what, c.s, c.want, c.ok)
		if checkAnyTabText(t, c.what, c.s) != c.ok {
			t.Errorf("%s: the chapter says of %q: %v", c.what, c.s, !c.ok)
		}
	}
	for what, l := range wrongTabs() {
		checkReadTab(t, what, rawTab(l), nil, false)
	}
	for what, x := range wrongSlots() {
		if min(x.Who, x.Ver, x.Key) < 0 || max(x.Who, x.Ver, x.Key) >= 1<<21 {
			// These have no text that plain words tell.
			continue
		}
		for _, l := range [][]impl.Slot{tab(x), tab(slot(1, 1, 5), x), tab(x, slot(99, 1, 5))} {
			checkReadTab(t, what, rawTab(l), nil, false)
		}
	}
}

func TestReadTabCutShortOrWithMore(t *testing.T) {
	for _, l := range someTabs() {
		s := impl.ShowTab(l)
		checkReadTab(t, "as they were", s, l, true)
		for cut := range len(s) {
			checkReadTab(t, "cut short", s[:cut], nil, false)
		}
		for b := range 256 {
			checkReadTab(t, "with a byte more", s+string([]byte{byte(b)}), nil, false)
		}
		checkReadTab(t, "twice", s+s, nil, false)
	}
}

// All short texts, and shown ones changed by a byte.
func TestReadTabTakesNothingElse(t *testing.T) {
	taken := 0
	check := func(s string) {
		t.Helper()
		if checkAnyTabText(t, "a text", s) {
			taken++
		}
	}
	everyText("\x00\x01\x02\x63\x64\x80", 6, check)
	// One slot, or two, of any few numbers.
	everyText("\x00\x01\x02\x03\x80", 6, func(s string) { check("\x01" + s); check("\x02" + s) })
	for _, l := range someTabs() {
		s := impl.ShowTab(l)
		for i := range len(s) {
			check(s[:i] + s[i+1:])
			for b := range 256 {
				check(s[:i] + string([]byte{byte(b)}) + s[i+1:])
				check(s[:i] + string([]byte{byte(b)}) + s[i:])
			}
		}
	}
	if taken < 3000 {
		t.Errorf("only %d texts were taken", taken)
	}
}

// everySmallTab calls say with all slots of these small numbers, up to so many of them, right or not.
func everySmallTab(longest int, say func([]impl.Slot)) {
	var grow func(l []impl.Slot)
	grow = func(l []impl.Slot) {
		say(slices.Clone(l))
		if len(l) == longest {
			return
		}
		for who := range 2 {
			for ver := range 4 {
				for key := range 4 {
					grow(append(l, slot(who, ver, key)))
				}
			}
		}
	}
	grow(nil)
}

func TestAllSmallTabs(t *testing.T) {
	right := 0
	everySmallTab(3, func(l []impl.Slot) {
		if !checkTab(t, "small", l) {
			return
		}
		right++
		for n := -1; n <= 4; n++ {
			checkKeep(t, "small", l, n)
		}
		for who := -1; who <= 2; who++ {
			checkNow(t, "small", l, who)
			for ver := -1; ver <= 4; ver++ {
				checkTabFind(t, "small", l, who, ver)
			}
			for key := range 5 {
				_, ok := plainTabAdd(l, who, key)
				checkAdd(t, "small", l, who, key, ok)
			}
		}
	})
	// Of 6 pairs of Who and Ver so many, each with another one of 3 Keys.
	if right != 1+6*3+15*6+20*6 {
		t.Errorf("%d are right", right)
	}
}

// anyTab is right, but here and there where wrong is above 0.
func anyTab(r *rand.Rand, wrong int) []impl.Slot {
	whos, vers := anyOf(r, []int{1, 3, 10, 100}), anyOf(r, []int{3, 21, 1000})
	in := map[[2]int]bool{}
	for range r.Intn(anyOf(r, []int{2, 5, 10, 21})) {
		in[[2]int{r.Intn(whos), anyOf(r, []int{1 + r.Intn(vers), 1001 - 1 - r.Intn(vers)})}] = true
	}
	keys := r.Perm(60)
	var l []impl.Slot
	for who := range whos {
		for ver := 1; ver <= 1000; ver++ {
			if in[[2]int{who, ver}] {
				l = append(l, slot(who, ver, anyOf(r, []int{1 + keys[len(l)], 1000000 - keys[len(l)], 16384 + keys[len(l)]})))
			}
		}
	}
	if wrong > 0 && len(l) > 0 && r.Intn(wrong) == 0 {
		turnATab(r, l)
	}
	return l
}

// turnATab changes a number, which may leave the table right.
func turnATab(r *rand.Rand, l []impl.Slot) {
	i, j := r.Intn(len(l)), r.Intn(len(l))
	switch r.Intn(5) {
	case 0:
		l[i].Who = anyOf(r, []int{-1, 0, 99, 100, l[j].Who})
	case 1:
		l[i].Ver = anyOf(r, []int{-1, 0, 1, 1000, 1001, l[j].Ver, l[i].Ver - 1, l[i].Ver + 1})
	case 2:
		l[i].Key = anyOf(r, []int{0, 1, 1000000, 1000001, l[j].Key})
	case 3:
		l[i], l[j] = l[j], l[i]
	case 4:
		l[i] = l[j]
	}
}

func TestTabsAtRandom(t *testing.T) {
	r := rand.New(rand.NewSource(19))
	right, wrong, added, refused := 0, 0, 0, 0
	for range 4000 {
		l := anyTab(r, anyOf(r, []int{0, 1}))
		if checkTab(t, "any", l) {
			right++
		} else {
			wrong++
		}
		checkKeep(t, "any", l, numberNear(r, 0, 6, 5))
		for range 4 {
			who, key := numberNear(r, 0, 99, 20), numberNear(r, 1, 1000000, 20)
			if len(l) > 0 && r.Intn(3) > 0 {
				who = anyOf(r, l).Who + r.Intn(3)/2
			}
			if len(l) > 0 && r.Intn(6) == 0 {
				key = anyOf(r, l).Key
			}
			_, ok := plainTabAdd(l, who, key)
			checkAdd(t, "any", l, who, key, ok)
			checkNow(t, "any", l, who)
			checkTabFind(t, "any", l, who, numberNear(r, 1, 1000, 9))
			if ok {
				added++
			} else {
				refused++
			}
		}
	}
	if right < 2000 || wrong < 500 || added < 5000 || refused < 3000 {
		t.Errorf("%d right, %d wrong, %d added, %d refused", right, wrong, added, refused)
	}
}

// Whatever comes to a table, what was added and is kept is found by its Ver, and no other one is.
func TestPromise19(t *testing.T) {
	r := rand.New(rand.NewSource(1019))
	for range 80 {
		var l []impl.Slot
		in := map[[2]int]int{}
		for key := 1; key <= 60; key++ {
			who := r.Intn(4)
			more, ok := impl.TabAdd(l, who, key)
			if now, has := impl.TabNow(more, who); ok && (!has || now.Key != key) {
				t.Fatalf("%d is added to %v for %d, but %v is now", key, l, who, now)
			}
			if ok {
				now, _ := impl.TabNow(more, who)
				in[[2]int{who, now.Ver}] = key
			}
			l = more
			if !ok || r.Intn(12) == 0 {
				l = impl.TabKeep(l, 1+r.Intn(4))
				for which := range in {
					if !slices.ContainsFunc(l, func(x impl.Slot) bool { return x.Who == which[0] && x.Ver == which[1] }) {
						delete(in, which)
					}
				}
			}
			for who := range 4 {
				for ver := range 62 {
					found, ok := impl.TabFind(l, who, ver)
					if want, has := in[[2]int{who, ver}]; ok != has || found != want {
						t.Fatalf("in %v TabFind of %d, %d is %d, %v, not %d", l, who, ver, found, ok, want)
					}
				}
			}
		}
	}
}

func TestAnyTextOfATab(t *testing.T) {
	r := rand.New(rand.NewSource(2019))
	taken, refused := 0, 0
	for range 4000 {
		l := anyTab(r, 0)
		s := impl.ShowTab(l)
		checkReadTab(t, "as they were", s, l, true)
		for range 8 {
			if checkAnyTabText(t, "turned", turnedText(r, s)) {
				taken++
			} else {
				refused++
			}
		}
	}
	if taken < 1000 || refused < 5000 {
		t.Errorf("%d texts were taken, %d refused", taken, refused)
	}
}

// No two right ones have one text.
func TestTabsShownAreUnlike(t *testing.T) {
	texts := map[string][]impl.Slot{}
	say := func(l []impl.Slot) {
		if !impl.TabOk(l) {
			return
		}
		s := impl.ShowTab(l)
		if other, ok := texts[s]; ok && !slices.Equal(other, l) {
			t.Errorf("%v and %v are both shown as %q", other, l, s)
		}
		texts[s] = l
	}
	everySmallTab(2, say)
	for _, l := range someTabs() {
		say(l)
	}
}

func TestTabsInOtherOrders(t *testing.T) {
	// What is told does not hang on what was told ahead of it, nor on what was written into that.
	for range 3 {
		for _, l := range someTabs() {
			before := slices.Clone(l)
			added, _ := impl.TabAdd(l, 40, 777)
			refused, _ := impl.TabAdd(l, 40, 0)
			back, _ := impl.ReadTab(impl.ShowTab(l))
			for _, answer := range [][]impl.Slot{added, refused, impl.TabKeep(l, 1), impl.TabKeep(l, 20), back} {
				overwritten(answer, slot(-7, -8, -9))
			}
			if !slices.Equal(l, before) {
				t.Fatalf("%v is %v behind that", before, l)
			}
			_, ok := plainTabAdd(l, 40, 777)
			checkAdd(t, "once more", l, 40, 777, ok)
			checkAdd(t, "once more", l, 40, 0, false)
			checkKeep(t, "once more", l, 20)
			checkReadTab(t, "once more", impl.ShowTab(l), l, true)
		}
	}
}
