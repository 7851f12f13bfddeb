package tests

import (
	"math"
	"math/rand"
	"slices"
	"strings"
	"testing"

	"loop.example/g00769/impl"
)

func serversIn(numbers ...int) impl.Rule { return impl.Rule{Kind: impl.RuServers, Set: numbers} }
func opsIn(numbers ...int) impl.Rule     { return impl.Rule{Kind: impl.RuOps, Set: numbers} }
func allGroups(numbers ...int) impl.Rule { return impl.Rule{Kind: impl.RuGroups, Set: numbers} }
func upToTime(n int) impl.Rule           { return impl.Rule{Kind: impl.RuBefore, N: n} }
func usesBelow(n int) impl.Rule          { return impl.Rule{Kind: impl.RuUses, N: n} }

func rules(l ...impl.Rule) []impl.Rule { return l }

// Rules by plain words: what the tests hold the program's answers against.

func plainRuleOk(x impl.Rule) bool {
	if x.Kind == 4 || x.Kind == 5 {
		return len(x.Set) == 0 && x.N >= 0 && x.N <= 100000
	}
	if x.Kind != 1 && x.Kind != 2 && x.Kind != 3 || x.N != 0 {
		return false
	}
	for i, n := range x.Set {
		if n < 0 || n > 30 || i > 0 && n <= x.Set[i-1] {
			return false
		}
	}
	return true
}

func plainRulesOk(l []impl.Rule) bool {
	for _, x := range l {
		if !plainRuleOk(x) {
			return false
		}
	}
	return len(l) <= 20
}

func plainAllows(l []impl.Rule, a impl.Ask) bool {
	if !plainRulesOk(l) {
		return false
	}
	for _, x := range l {
		yes := true
		switch x.Kind {
		case 1:
			yes = slices.Contains(x.Set, a.Server)
		case 2:
			yes = slices.Contains(x.Set, a.Op)
		case 3:
			for _, n := range x.Set {
				yes = yes && slices.Contains(a.Groups, n)
			}
		case 4:
			yes = a.Now <= x.N
		case 5:
			yes = a.Used < x.N
		}
		if !yes {
			return false
		}
	}
	return true
}

// plainOfKind is the one rule of a kind in what is Normal; false where there is none.
func plainOfKind(l []impl.Rule, kind int) (impl.Rule, bool) {
	var own []impl.Rule
	for _, x := range l {
		if x.Kind == kind {
			own = append(own, x)
		}
	}
	if len(own) == 0 {
		return impl.Rule{}, false
	}
	one := impl.Rule{Kind: kind, N: own[0].N}
	for n := 0; n <= 30; n++ {
		count := 0
		for _, x := range own {
			if slices.Contains(x.Set, n) {
				count++
			}
		}
		if kind == 3 && count > 0 || kind != 3 && count == len(own) {
			one.Set = append(one.Set, n)
		}
	}
	for _, x := range own {
		if x.N < one.N {
			one.N = x.N
		}
	}
	return one, true
}

func plainNormal(l []impl.Rule) []impl.Rule {
	if !plainRulesOk(l) {
		return nil
	}
	var normal []impl.Rule
	for _, kind := range []int{1, 2, 3, 4, 5} {
		if one, ok := plainOfKind(l, kind); ok {
			normal = append(normal, one)
		}
	}
	return normal
}

func plainJoined(a, b []impl.Rule) []impl.Rule {
	if !plainRulesOk(a) || !plainRulesOk(b) || len(a)+len(b) > 20 {
		return nil
	}
	return plainNormal(append(slices.Clone(a), b...))
}

func plainStricter(a, b []impl.Rule) bool {
	if !plainRulesOk(a) || !plainRulesOk(b) {
		return false
	}
	for _, x := range plainNormal(a) {
		if (x.Kind == 1 || x.Kind == 2) && len(x.Set) == 0 || x.Kind == 5 && x.N == 0 {
			return true
		}
	}
	for _, x := range plainNormal(b) {
		own, ok := plainOfKind(a, x.Kind)
		switch x.Kind {
		case 1, 2:
			if !ok || !holdsAll(x.Set, own.Set) {
				return false
			}
		case 3:
			if !holdsAll(own.Set, x.Set) {
				return false
			}
		case 4, 5:
			if !ok || own.N > x.N {
				return false
			}
		}
	}
	return true
}

func plainShowRules(l []impl.Rule) string {
	if !plainRulesOk(l) {
		return ""
	}
	return rawRules(l)
}

// rawRules is the text of any rules of numbers from 0 to below 2 to the 21, right or not.
func rawRules(l []impl.Rule) string {
	s := plainLength(len(l))
	for _, x := range l {
		s += plainLength(x.Kind) + plainLength(x.N) + plainLength(len(x.Set))
		for _, n := range x.Set {
			s += plainLength(n)
		}
	}
	return s
}

// plainReadRules has all numbers of a text first, and then goes through these.
func plainReadRules(s string) ([]impl.Rule, bool) {
	var numbers []int
	for len(s) > 0 {
		n, used := plainReadLength(s)
		if used == 0 || len(numbers) > 1000 {
			return nil, false
		}
		numbers, s = append(numbers, n), s[used:]
	}
	if len(numbers) == 0 {
		return nil, false
	}
	count, numbers := numbers[0], numbers[1:]
	var l []impl.Rule
	for len(numbers) >= 3 && len(numbers)-3 >= numbers[2] {
		end := 3 + numbers[2]
		l = append(l, impl.Rule{Kind: numbers[0], N: numbers[1], Set: numbers[3:end]})
		numbers = numbers[end:]
	}
	if len(l) != count || len(numbers) > 0 || !plainRulesOk(l) {
		return nil, false
	}
	return l, true
}

func sameRule(a, b impl.Rule) bool {
	return a.Kind == b.Kind && a.N == b.N && slices.Equal(a.Set, b.Set)
}

func sameRules(a, b []impl.Rule) bool { return slices.EqualFunc(a, b, sameRule) }

func copiedRules(l []impl.Rule) []impl.Rule {
	l = slices.Clone(l)
	for i := range l {
		l[i].Set = slices.Clone(l[i].Set)
	}
	return l
}

// rulesWithRoom are the rules with spare room behind each list, and a question whether that and the lists are as they were.
func rulesWithRoom(l []impl.Rule) ([]impl.Rule, func() bool) {
	var asked []func() bool
	l = copiedRules(l)
	for i := range l {
		l[i].Set = roomBehind(&asked, l[i].Set, -7)
	}
	l = roomBehind(&asked, l, impl.Rule{Kind: -7})
	return l, func() bool {
		return !slices.ContainsFunc(asked, func(asItWas func() bool) bool { return !asItWas() })
	}
}

func (m *memories) addRules(l []impl.Rule) {
	addList(m, "rules", l)
	for _, x := range l {
		addList(m, "a Set", x.Set)
	}
}

// checkRulesApart asks that rules that are answered are new memory, each Set of them, too.
func checkRulesApart(t *testing.T, what string, got []impl.Rule, handed ...[]impl.Rule) {
	t.Helper()
	var answered, given memories
	answered.addRules(got)
	for _, l := range handed {
		given.addRules(l)
	}
	checkApart(t, what, answered, given)
}

// checkRules holds what is said and made of rules against plain words; asks that they are not changed, and that what is answered is new memory and is right, and read back.
func checkRules(t *testing.T, what string, l []impl.Rule) bool {
	t.Helper()
	handed, asItWas := rulesWithRoom(l)
	right, normal, shown := impl.RulesOk(handed), impl.Normal(handed), impl.ShowRules(handed)
	if right != plainRulesOk(l) {
		t.Fatalf("%s: RulesOk(%+v) = %v", what, l, right)
	}
	if want := plainNormal(l); !sameRules(normal, want) {
		t.Fatalf("%s: Normal(%+v) = %+v, not %+v", what, l, normal, want)
	}
	if want := plainShowRules(l); shown != want {
		t.Fatalf("%s: ShowRules(%+v) = %q, not %q", what, l, shown, want)
	}
	checkRulesApart(t, what, normal, handed)
	if again := impl.Normal(normal); !sameRules(again, normal) {
		t.Fatalf("%s: Normal of %+v, that is Normal, is %+v", what, normal, again)
	}
	if right {
		checkReadRules(t, what, shown, l, true)
	}
	if !asItWas() {
		t.Fatalf("%s: %+v was changed", what, l)
	}
	return right
}

func checkRulesOk(t *testing.T, what string, want bool, l []impl.Rule) {
	t.Helper()
	if got := checkRules(t, what, l); got != want {
		t.Errorf("%s: RulesOk(%+v) = %v", what, l, got)
	}
	if !want {
		checkOfWrongRules(t, what, l)
	}
}

// checkOfWrongRules asks for what is answered of rules that are not right, alone and beside others that are.
func checkOfWrongRules(t *testing.T, what string, l []impl.Rule) {
	t.Helper()
	for _, a := range someAsks() {
		checkAllows(t, what, l, a, false)
	}
	for _, other := range append(someRules(), nil, l) {
		for _, both := range [][2][]impl.Rule{{l, other}, {other, l}} {
			if got := checkJoined(t, what, both[0], both[1]); len(got) != 0 {
				t.Errorf("%s: Joined(%+v, %+v) = %+v", what, both[0], both[1], got)
			}
			checkStricter(t, what, both[0], both[1], false)
		}
	}
	if normal, shown := impl.Normal(l), impl.ShowRules(l); len(normal) != 0 || shown != "" {
		t.Errorf("%s: of %+v Normal is %+v, ShowRules %q", what, l, normal, shown)
	}
}

// checkAllows asks, too, that neither the rules nor the Groups are changed, and for promise 17: what is Normal allows just what the rules do.
func checkAllows(t *testing.T, what string, l []impl.Rule, a impl.Ask, want bool) {
	t.Helper()
	if plainAllows(l, a) != want {
		t.Fatalf("%s: the chapter says of %+v and %+v: %v", what, l, a, !want)
	}
	handed, asItWas := rulesWithRoom(l)
	var asked []func() bool
	groups := a.Groups
	a.Groups = roomBehind(&asked, groups, -7)
	if got := impl.Allows(handed, a); got != want {
		t.Fatalf("%s: Allows(%+v, %+v) = %v", what, l, a, got)
	}
	if !asItWas() || !asked[0]() {
		t.Fatalf("%s: %+v or %+v was changed", what, l, a)
	}
	if !plainRulesOk(l) {
		return
	}
	if got := impl.Allows(impl.Normal(l), a); got != want {
		t.Fatalf("%s: Normal(%+v) = %+v allows %+v: %v", what, l, impl.Normal(l), a, got)
	}
}

func checkJoined(t *testing.T, what string, a, b []impl.Rule) []impl.Rule {
	t.Helper()
	handedA, aAsItWas := rulesWithRoom(a)
	handedB, bAsItWas := rulesWithRoom(b)
	got := impl.Joined(handedA, handedB)
	if want := plainJoined(a, b); !sameRules(got, want) {
		t.Fatalf("%s: Joined(%+v, %+v) = %+v, not %+v", what, a, b, got, want)
	}
	checkRulesApart(t, what, got, handedA, handedB)
	if !aAsItWas() || !bAsItWas() {
		t.Fatalf("%s: %+v or %+v was changed", what, a, b)
	}
	return got
}

// checkJoinedAllows asks for promise 17: both together allow just what both do.
func checkJoinedAllows(t *testing.T, what string, a, b []impl.Rule, ask impl.Ask) {
	t.Helper()
	if !plainRulesOk(a) || !plainRulesOk(b) || len(a)+len(b) > 20 {
		return
	}
	both := impl.Joined(a, b)
	if got, want := impl.Allows(both, ask), impl.Allows(a, ask) && impl.Allows(b, ask); got != want {
		t.Fatalf("%s: Joined(%+v, %+v) = %+v allows %+v: %v", what, a, b, both, ask, got)
	}
}

func checkStricter(t *testing.T, what string, a, b []impl.Rule, want bool) {
	t.Helper()
	if plainStricter(a, b) != want {
		t.Fatalf("%s: the chapter says of %+v and %+v: %v", what, a, b, !want)
	}
	handedA, aAsItWas := rulesWithRoom(a)
	handedB, bAsItWas := rulesWithRoom(b)
	if got := impl.Stricter(handedA, handedB); got != want {
		t.Fatalf("%s: Stricter(%+v, %+v) = %v", what, a, b, got)
	}
	if !aAsItWas() || !bAsItWas() {
		t.Fatalf("%s: %+v or %+v was changed", what, a, b)
	}
}

func checkReadRules(t *testing.T, what, s string, want []impl.Rule, wantOk bool) {
	t.Helper()
	got, ok := impl.ReadRules(s)
	if ok != wantOk || !sameRules(got, want) {
		t.Fatalf("%s: ReadRules(%q) = %+v, %v, not %+v, %v", what, s, got, ok, want, wantOk)
	}
	checkRulesApart(t, what, got)
	if ok && (impl.ShowRules(got) != s || !impl.RulesOk(got)) {
		t.Fatalf("%s: %q is read as %+v, which is shown as %q", what, s, got, impl.ShowRules(got))
	}
}

// checkAnyText holds what is read of any text against plain words, and says whether it is taken.
func checkAnyText(t *testing.T, what, s string) bool {
	t.Helper()
	want, ok := plainReadRules(s)
	checkReadRules(t, what, s, want, ok)
	return ok
}

func someRules() [][]impl.Rule {
	return [][]impl.Rule{
		{},
		rules(serversIn(0, 1, 4)), rules(serversIn()), rules(opsIn(2, 30)), rules(allGroups()), rules(allGroups(1, 3)), rules(upToTime(0)), rules(upToTime(9)), rules(usesBelow(0)), rules(usesBelow(3)),
		rules(serversIn(0, 1, 4), upToTime(9), serversIn(1, 2, 4), allGroups(3), allGroups(1), upToTime(12)),
		rules(usesBelow(5), upToTime(7), allGroups(0, 30), opsIn(7), serversIn(3)),
	}
}

func someAsks() []impl.Ask {
	return []impl.Ask{
		{},
		{Server: 1, Op: 2, Groups: []int{1, 3}, Now: 3, Used: 1},
		{Server: 4, Op: 30, Groups: []int{3, 2, 1, 0, 1}, Now: 9, Used: 0},
		{Server: -1, Op: -1, Groups: []int{-1}, Now: -1, Used: -1},
		{Server: math.MaxInt, Op: math.MaxInt, Groups: []int{math.MaxInt, math.MinInt}, Now: math.MinInt, Used: math.MinInt},
	}
}

// Rules that are not right, each for one reason alone.
func wrongRules() map[string]impl.Rule {
	wrong := map[string]impl.Rule{
		"Kind 0":                           {},
		"Kind 0 with a Set":                {Set: []int{1}},
		"Kind 0 with a N":                  {N: 1},
		"Kind -1":                          {Kind: -1},
		"Kind 6":                           {Kind: 6},
		"Kind 6 with a Set":                {Kind: 6, Set: []int{1}},
		"Kind 6 with a N":                  {Kind: 6, N: 1},
		"a Kind as great as an int goes":   {Kind: math.MaxInt},
		"a Kind as small as an int goes":   {Kind: math.MinInt},
		"a Kind that is 1 in 32 bits":      {Kind: 1<<32 + 1},
		"a Kind that is 5 in 8 bits":       {Kind: 256 + 5},
		"a Kind that is 4 but for its bit": {Kind: math.MinInt + 4},
	}
	for kind, name := range map[int]string{1: "RuServers", 2: "RuOps", 3: "RuGroups"} {
		for what, set := range map[string][]int{
			"-1": {-1}, "-1 and more": {-1, 0, 1}, "31": {31}, "more and 31": {0, 1, 31}, "one as great as an int goes": {math.MaxInt}, "one as small as an int goes": {math.MinInt}, "one as small as an int goes, and more": {math.MinInt, 5}, "more and one as great as an int goes": {5, math.MaxInt},
			"two alike": {5, 5}, "two that are 0": {0, 0}, "two that are 30": {30, 30}, "two alike ahead": {2, 2, 3}, "two alike at the end": {1, 2, 2}, "two alike with another between": {2, 3, 2},
			"one that falls": {5, 4}, "one that falls to 0": {1, 0}, "one that falls at the end": {1, 2, 30, 29}, "one that falls and goes on": {3, 1, 2}, "all that fall": {30, 20, 10, 0},
			"32 numbers": numbersFrom(0, 32), "all and one more": append(numbersFrom(0, 31), 30), "1000 alike": make([]int, 1000),
		} {
			wrong[name+" with "+what] = impl.Rule{Kind: kind, Set: set}
		}
		for what, n := range map[string]int{"N 1": 1, "N -1": -1, "N 30": 30, "N MaxTime": 100000, "a N as great as an int goes": math.MaxInt, "a N as small as an int goes": math.MinInt} {
			wrong[name+" with "+what] = impl.Rule{Kind: kind, Set: []int{1, 2}, N: n}
			wrong[name+" without numbers, with "+what] = impl.Rule{Kind: kind, N: n}
		}
	}
	for kind, name := range map[int]string{4: "RuBefore", 5: "RuUses"} {
		for what, n := range map[string]int{"-1": -1, "one past MaxTime": 100001, "as great as an int goes": math.MaxInt, "as small as an int goes": math.MinInt, "0 in 32 bits": 1 << 32} {
			wrong[name+" with a N of "+what] = impl.Rule{Kind: kind, N: n}
		}
		for what, set := range map[string][]int{"0": {0}, "30": {30}, "1 and 2": {1, 2}, "-1": {-1}} {
			wrong[name+" with a Set of "+what] = impl.Rule{Kind: kind, Set: set, N: 9}
			wrong[name+" 0 with a Set of "+what] = impl.Rule{Kind: kind, Set: set}
		}
	}
	return wrong
}

func TestRuleConstants(t *testing.T) {
	kinds := []int{impl.RuServers, impl.RuOps, impl.RuGroups, impl.RuBefore, impl.RuUses}
	if !slices.Equal(kinds, []int{1, 2, 3, 4, 5}) {
		t.Error(kinds)
	}
}

func TestRulesOk(t *testing.T) {
	for _, kind := range []int{1, 2, 3} {
		for _, set := range [][]int{nil, {}, {0}, {30}, {0, 30}, {0, 1}, {29, 30}, {4, 9, 17}, numbersFrom(0, 31), numbersFrom(1, 30), numbersFrom(0, 30)} {
			checkRulesOk(t, "a Set", true, rules(impl.Rule{Kind: kind, Set: set}))
		}
	}
	for _, kind := range []int{4, 5} {
		for _, n := range []int{0, 1, 30, 31, 127, 128, 16383, 16384, 99999, 100000} {
			checkRulesOk(t, "a N", true, rules(impl.Rule{Kind: kind, N: n}))
			checkRulesOk(t, "a N, and an empty Set", true, rules(impl.Rule{Kind: kind, N: n, Set: []int{}}))
		}
	}
	checkRulesOk(t, "no rules", true, nil)
	checkRulesOk(t, "no rules", true, []impl.Rule{})
	for _, l := range someRules() {
		checkRulesOk(t, "some rules", true, l)
	}
}

func TestRulesThatAreNotRight(t *testing.T) {
	for what, x := range wrongRules() {
		checkRulesOk(t, what, false, rules(x))
		checkRulesOk(t, what+", ahead of right ones", false, rules(x, serversIn(1), usesBelow(0)))
		checkRulesOk(t, what+", behind right ones", false, rules(serversIn(), upToTime(5), x))
		checkRulesOk(t, what+", as the last of 20", false, append(slices.Repeat(rules(usesBelow(9)), 19), x))
	}
}

func TestHowManyRules(t *testing.T) {
	for _, x := range rules(serversIn(1, 2), opsIn(), allGroups(7), upToTime(100000), usesBelow(0), usesBelow(4)) {
		for _, count := range []int{1, 2, 19, 20} {
			checkRulesOk(t, "alike rules", true, slices.Repeat(rules(x), count))
		}
		for _, count := range []int{21, 22, 40, 127, 128, 1000} {
			checkRulesOk(t, "too many rules", false, slices.Repeat(rules(x), count))
		}
	}
	all := slices.Repeat(rules(serversIn(1), opsIn(2), allGroups(3), upToTime(4), usesBelow(5)), 4)
	checkRulesOk(t, "20 of all kinds", true, all)
	checkRulesOk(t, "21 of all kinds", false, append(all, serversIn(1)))
	checkRulesOk(t, "20 of one kind, of all numbers", true, slices.Repeat(rules(serversIn(numbersFrom(0, 31)...)), 20))
}

func TestAllows(t *testing.T) {
	least, most := math.MinInt, math.MaxInt
	for _, c := range []struct {
		what string
		l    []impl.Rule
		a    impl.Ask
		want bool
	}{
		{"no rules", nil, impl.Ask{}, true},
		{"no rules", nil, impl.Ask{Server: least, Op: most, Now: most, Used: most}, true},
		{"no rules", []impl.Rule{}, impl.Ask{Server: -1, Op: 31, Groups: []int{-1}, Now: 100001, Used: 100001}, true},
		{"a server", rules(serversIn(0, 4)), impl.Ask{Server: 4, Op: -1, Now: most, Used: most}, true},
		{"server 0", rules(serversIn(0, 4)), impl.Ask{Server: 0}, true},
		{"server 30", rules(serversIn(30)), impl.Ask{Server: 30}, true},
		{"a server between", rules(serversIn(0, 4)), impl.Ask{Server: 3}, false},
		{"a server behind", rules(serversIn(0, 4)), impl.Ask{Server: 5}, false},
		{"server -1", rules(serversIn(0, 4)), impl.Ask{Server: -1}, false},
		{"server 31", rules(serversIn(numbersFrom(0, 31)...)), impl.Ask{Server: 31}, false},
		{"server 64", rules(serversIn(numbersFrom(0, 31)...)), impl.Ask{Server: 64}, false},
		{"a server as great as an int goes", rules(serversIn(numbersFrom(0, 31)...)), impl.Ask{Server: most}, false},
		{"a server as small as an int goes", rules(serversIn(numbersFrom(0, 31)...)), impl.Ask{Server: least}, false},
		{"a server that is 0 in 32 bits", rules(serversIn(numbersFrom(0, 31)...)), impl.Ask{Server: 1 << 32}, false},
		{"no server", rules(serversIn()), impl.Ask{}, false},
		{"the op of the number of the server", rules(serversIn(4)), impl.Ask{Op: 4}, false},
		{"an op", rules(opsIn(2, 30)), impl.Ask{Op: 30, Server: -1, Now: most, Used: most}, true},
		{"another op", rules(opsIn(2, 30)), impl.Ask{Op: 29}, false},
		{"op 0", rules(opsIn(0)), impl.Ask{}, true},
		{"op -1", rules(opsIn(0)), impl.Ask{Op: -1}, false},
		{"op 31", rules(opsIn(numbersFrom(0, 31)...)), impl.Ask{Op: 31}, false},
		{"an op as great as an int goes", rules(opsIn(numbersFrom(0, 31)...)), impl.Ask{Op: most}, false},
		{"an op as small as an int goes", rules(opsIn(numbersFrom(0, 31)...)), impl.Ask{Op: least}, false},
		{"no op", rules(opsIn()), impl.Ask{}, false},
		{"the server of the number of the op", rules(opsIn(4)), impl.Ask{Server: 4}, false},
		{"all groups", rules(allGroups(1, 3)), impl.Ask{Groups: []int{1, 3}}, true},
		{"all groups in another order, and more", rules(allGroups(1, 3)), impl.Ask{Groups: []int{9, 3, -1, 2, 1, 30, most}}, true},
		{"all groups, some twice", rules(allGroups(1, 3)), impl.Ask{Groups: []int{3, 3, 1, 1, 1}}, true},
		{"one group missing", rules(allGroups(1, 3)), impl.Ask{Groups: []int{1}}, false},
		{"one group missing, the other one twice", rules(allGroups(1, 3)), impl.Ask{Groups: []int{1, 1}}, false},
		{"one group missing, another one there", rules(allGroups(1, 3)), impl.Ask{Groups: []int{2, 3}}, false},
		{"all groups but one", rules(allGroups(numbersFrom(0, 31)...)), impl.Ask{Groups: numbersFrom(0, 30)}, false},
		{"all groups that there are", rules(allGroups(numbersFrom(0, 31)...)), impl.Ask{Groups: numbersFrom(-5, 100)}, true},
		{"many more groups", rules(allGroups(0, 30)), impl.Ask{Groups: append(numbersFrom(0, 100000), 30)}, true},
		{"many groups, the last one missing", rules(allGroups(0, 30)), impl.Ask{Groups: append(make([]int, 100000), 29)}, false},
		{"no group is there", rules(allGroups(1)), impl.Ask{}, false},
		{"no group is asked for", rules(allGroups()), impl.Ask{}, true},
		{"no group is asked for, some are there", rules(allGroups()), impl.Ask{Groups: []int{5}}, true},
		{"groups that are 1 and 3 in 32 bits", rules(allGroups(1, 3)), impl.Ask{Groups: []int{1<<32 + 1, 1<<32 + 3}}, false},
		{"at N", rules(upToTime(9)), impl.Ask{Now: 9, Server: -1, Op: -1, Used: most}, true},
		{"one before N", rules(upToTime(9)), impl.Ask{Now: 8}, true},
		{"one past N", rules(upToTime(9)), impl.Ask{Now: 10}, false},
		{"at 0", rules(upToTime(0)), impl.Ask{}, true},
		{"at 1, N is 0", rules(upToTime(0)), impl.Ask{Now: 1}, false},
		{"before 0", rules(upToTime(0)), impl.Ask{Now: -1}, true},
		{"as early as an int goes", rules(upToTime(0)), impl.Ask{Now: least}, true},
		{"as late as an int goes", rules(upToTime(100000)), impl.Ask{Now: most}, false},
		{"at MaxTime", rules(upToTime(100000)), impl.Ask{Now: 100000}, true},
		{"one past MaxTime", rules(upToTime(100000)), impl.Ask{Now: 100001}, false},
		{"Used one below N", rules(usesBelow(3)), impl.Ask{Used: 2, Server: -1, Op: -1, Now: most}, true},
		{"Used at N", rules(usesBelow(3)), impl.Ask{Used: 3}, false},
		{"Used one past N", rules(usesBelow(3)), impl.Ask{Used: 4}, false},
		{"Used 0, N is 1", rules(usesBelow(1)), impl.Ask{}, true},
		{"Used 0, N is 0", rules(usesBelow(0)), impl.Ask{}, false},
		{"Used below 0", rules(usesBelow(3)), impl.Ask{Used: -1}, true},
		{"Used below 0, N is 0", rules(usesBelow(0)), impl.Ask{Used: -1}, true},
		{"Used as little as an int goes", rules(usesBelow(0)), impl.Ask{Used: least}, true},
		{"Used as much as an int goes", rules(usesBelow(100000)), impl.Ask{Used: most}, false},
		{"Used one below MaxTime", rules(usesBelow(100000)), impl.Ask{Used: 99999}, true},
		{"Used at MaxTime", rules(usesBelow(100000)), impl.Ask{Used: 100000}, false},
		{"two of one kind allow it", rules(serversIn(1, 2), serversIn(2, 3)), impl.Ask{Server: 2}, true},
		{"the first one alone allows it", rules(serversIn(1, 2), serversIn(2, 3)), impl.Ask{Server: 1}, false},
		{"the last one alone allows it", rules(serversIn(1, 2), serversIn(2, 3)), impl.Ask{Server: 3}, false},
		{"two Sets with none in common", rules(opsIn(1), opsIn(2)), impl.Ask{Op: 1}, false},
		{"two of groups", rules(allGroups(1), allGroups(2)), impl.Ask{Groups: []int{2, 1}}, true},
		{"two of groups, one is missing", rules(allGroups(1), allGroups(2)), impl.Ask{Groups: []int{1}}, false},
		{"two times, at the lesser one", rules(upToTime(9), upToTime(5)), impl.Ask{Now: 5}, true},
		{"two times, between", rules(upToTime(9), upToTime(5)), impl.Ask{Now: 6}, false},
		{"two of uses, between", rules(usesBelow(3), usesBelow(6)), impl.Ask{Used: 3}, false},
		{"all but the last of 20", append(slices.Repeat(rules(usesBelow(5)), 19), opsIn(1)), impl.Ask{Used: 4}, false},
		{"all of 20", append(slices.Repeat(rules(usesBelow(5)), 19), opsIn(1)), impl.Ask{Used: 4, Op: 1}, true},
		{"21 that would allow it", slices.Repeat(rules(usesBelow(5)), 21), impl.Ask{}, false},
		{"a kind that is none", rules(impl.Rule{}), impl.Ask{}, false},
		{"a Set that falls", rules(serversIn(2, 1)), impl.Ask{Server: 1}, false},
		{"a time with a Set", rules(impl.Rule{Kind: 4, Set: []int{0}, N: 9}), impl.Ask{}, false},
		{"servers with a N", rules(impl.Rule{Kind: 1, Set: []int{0}, N: 1}), impl.Ask{}, false},
	} {
		checkAllows(t, c.what, c.l, c.a, c.want)
	}
}

func checkNormal(t *testing.T, what string, l, want []impl.Rule) {
	t.Helper()
	checkRules(t, what, l)
	if got := impl.Normal(l); !sameRules(got, want) {
		t.Errorf("%s: Normal(%+v) = %+v, not %+v", what, l, got, want)
	}
}

func TestNormal(t *testing.T) {
	all := numbersFrom(0, 31)
	for _, c := range []struct {
		what    string
		l, want []impl.Rule
	}{
		{"none", nil, nil},
		{"one of each", rules(serversIn(1), opsIn(2), allGroups(3), upToTime(4), usesBelow(5)), rules(serversIn(1), opsIn(2), allGroups(3), upToTime(4), usesBelow(5))},
		{"out of order", rules(usesBelow(5), upToTime(4), allGroups(3), opsIn(2), serversIn(1)), rules(serversIn(1), opsIn(2), allGroups(3), upToTime(4), usesBelow(5))},
		{"some are not there", rules(usesBelow(5), opsIn(2)), rules(opsIn(2), usesBelow(5))},
		{"servers with some in common", rules(serversIn(0, 1, 4), serversIn(1, 2, 4)), rules(serversIn(1, 4))},
		{"servers with all in common", rules(serversIn(1, 4), serversIn(1, 4)), rules(serversIn(1, 4))},
		{"servers of which one has all", rules(serversIn(1, 4), serversIn(all...)), rules(serversIn(1, 4))},
		{"servers with none in common", rules(serversIn(0, 1), serversIn(2, 4)), rules(serversIn())},
		{"three of servers, two each with one in common", rules(serversIn(0, 1), serversIn(1, 2), serversIn(0, 2)), rules(serversIn())},
		{"three of servers with one in common", rules(serversIn(0, 1, 30), serversIn(1, 2, 30), serversIn(0, 2, 30)), rules(serversIn(30))},
		{"servers, one without numbers", rules(serversIn(0, 1), serversIn()), rules(serversIn())},
		{"no servers", rules(serversIn()), rules(serversIn())},
		{"ops with some in common", rules(opsIn(0, 1, 4), opsIn(1, 2, 4)), rules(opsIn(1, 4))},
		{"ops with all in common", rules(opsIn(1, 4), opsIn(1, 4), opsIn(1, 4)), rules(opsIn(1, 4))},
		{"ops with none in common", rules(opsIn(0, 1), opsIn(2, 4)), rules(opsIn())},
		{"no ops", rules(opsIn()), rules(opsIn())},
		{"groups with some in common", rules(allGroups(0, 1, 4), allGroups(1, 2, 4)), rules(allGroups(0, 1, 2, 4))},
		{"groups with all in common", rules(allGroups(1, 4), allGroups(1, 4)), rules(allGroups(1, 4))},
		{"groups with none in common", rules(allGroups(30), allGroups(2, 4), allGroups(0)), rules(allGroups(0, 2, 4, 30))},
		{"groups, all of them", rules(allGroups(all[20:]...), allGroups(all[:20]...)), rules(allGroups(all...))},
		{"groups, one without numbers", rules(allGroups(), allGroups(2, 4)), rules(allGroups(2, 4))},
		{"no groups", rules(allGroups()), rules(allGroups())},
		{"no groups twice", rules(allGroups(), allGroups()), rules(allGroups())},
		{"times", rules(upToTime(9), upToTime(12)), rules(upToTime(9))},
		{"times that fall", rules(upToTime(12), upToTime(9), upToTime(10)), rules(upToTime(9))},
		{"a time of 0", rules(upToTime(9), upToTime(0)), rules(upToTime(0))},
		{"a time of 0 ahead", rules(upToTime(0), upToTime(9)), rules(upToTime(0))},
		{"times alike", rules(upToTime(100000), upToTime(100000)), rules(upToTime(100000))},
		{"uses", rules(usesBelow(3), usesBelow(5)), rules(usesBelow(3))},
		{"uses that fall", rules(usesBelow(5), usesBelow(4), usesBelow(3)), rules(usesBelow(3))},
		{"uses of 0", rules(usesBelow(5), usesBelow(0)), rules(usesBelow(0))},
		{"a time and uses do not mix", rules(upToTime(9), usesBelow(3), upToTime(12), usesBelow(1)), rules(upToTime(9), usesBelow(1))},
		{"servers and ops do not mix", rules(serversIn(1, 2), opsIn(2, 3), serversIn(2, 4), opsIn(3, 5)), rules(serversIn(2), opsIn(3))},
		{"groups and servers do not mix", rules(serversIn(1), allGroups(2), allGroups(1)), rules(serversIn(1), allGroups(1, 2))},
		{"the shown ones", rules(serversIn(0, 1, 4), upToTime(9), serversIn(1, 2, 4), allGroups(3), allGroups(1), upToTime(12)), rules(serversIn(1, 4), allGroups(1, 3), upToTime(9))},
		{"20", slices.Repeat(rules(serversIn(1, 2), opsIn(3), allGroups(4), upToTime(5), usesBelow(6)), 4), rules(serversIn(1, 2), opsIn(3), allGroups(4), upToTime(5), usesBelow(6))},
		{"21", append(slices.Repeat(rules(usesBelow(5)), 20), opsIn(1)), nil},
		{"one not right", rules(serversIn(1), opsIn(31)), nil},
	} {
		checkNormal(t, c.what, c.l, c.want)
	}
}

func TestJoined(t *testing.T) {
	for _, c := range []struct {
		what       string
		a, b, want []impl.Rule
	}{
		{"none", nil, nil, nil},
		{"none, and some", nil, rules(opsIn(1)), rules(opsIn(1))},
		{"some, and none", rules(opsIn(1)), nil, rules(opsIn(1))},
		{"the shown ones", rules(usesBelow(5)), rules(usesBelow(3), opsIn(7)), rules(opsIn(7), usesBelow(3))},
		{"servers of both", rules(serversIn(0, 1)), rules(serversIn(1, 2)), rules(serversIn(1))},
		{"servers with none in common", rules(serversIn(0)), rules(serversIn(2)), rules(serversIn())},
		{"groups of both", rules(allGroups(4)), rules(allGroups(1)), rules(allGroups(1, 4))},
		{"the lesser time is behind", rules(upToTime(9)), rules(upToTime(4)), rules(upToTime(4))},
		{"the lesser time is ahead", rules(upToTime(4)), rules(upToTime(9)), rules(upToTime(4))},
		{"out of order", rules(usesBelow(1), upToTime(2)), rules(allGroups(3), serversIn(4)), rules(serversIn(4), allGroups(3), upToTime(2), usesBelow(1))},
		{"10 and 10", slices.Repeat(rules(usesBelow(5)), 10), slices.Repeat(rules(upToTime(7)), 10), rules(upToTime(7), usesBelow(5))},
		{"20 and none", slices.Repeat(rules(usesBelow(5)), 20), nil, rules(usesBelow(5))},
		{"none and 20", nil, slices.Repeat(rules(usesBelow(5)), 20), rules(usesBelow(5))},
		{"19 and 1", slices.Repeat(rules(usesBelow(5)), 19), rules(usesBelow(2)), rules(usesBelow(2))},
		{"10 and 11", slices.Repeat(rules(usesBelow(5)), 10), slices.Repeat(rules(upToTime(7)), 11), nil},
		{"20 and 1", slices.Repeat(rules(usesBelow(5)), 20), rules(usesBelow(2)), nil},
		{"1 and 20", rules(usesBelow(2)), slices.Repeat(rules(usesBelow(5)), 20), nil},
		{"20 and 20", slices.Repeat(rules(usesBelow(5)), 20), slices.Repeat(rules(usesBelow(5)), 20), nil},
		{"21 and none", slices.Repeat(rules(usesBelow(5)), 21), nil, nil},
		{"none and 21", nil, slices.Repeat(rules(usesBelow(5)), 21), nil},
		{"the first one not right", rules(opsIn(31)), rules(opsIn(1)), nil},
		{"the second one not right", rules(opsIn(1)), rules(opsIn(2, 2)), nil},
		{"both not right", rules(opsIn(31)), rules(impl.Rule{}), nil},
		{"one not right, and none", rules(impl.Rule{Kind: 6}), nil, nil},
		{"none, and one not right", nil, rules(impl.Rule{Kind: 6}), nil},
	} {
		if got := checkJoined(t, c.what, c.a, c.b); !sameRules(got, c.want) {
			t.Errorf("%s: Joined(%+v, %+v) = %+v, not %+v", c.what, c.a, c.b, got, c.want)
		}
		for _, a := range someAsks() {
			checkJoinedAllows(t, c.what, c.a, c.b, a)
		}
	}
}

func TestJoinedOfOneList(t *testing.T) {
	// Both may be handed in out of one room.
	room := rules(serversIn(1, 2), usesBelow(5), serversIn(2, 3), usesBelow(4), allGroups(9))
	before := copiedRules(room)
	got := impl.Joined(room[:2], room[1:4])
	if !sameRules(got, rules(serversIn(2), usesBelow(4))) || !sameRules(room, before) {
		t.Errorf("%+v of %+v", got, room)
	}
	if got = impl.Joined(room, room); !sameRules(got, impl.Normal(room)) || !sameRules(room, before) {
		t.Errorf("%+v of %+v twice", got, room)
	}
}

func TestStricter(t *testing.T) {
	shown := rules(serversIn(0, 1, 4), upToTime(9), serversIn(1, 2, 4), allGroups(3), allGroups(1), upToTime(12))
	wide := rules(serversIn(1, 4, 5), opsIn(6, 7), allGroups(2, 3), upToTime(9), usesBelow(4))
	for _, c := range []struct {
		what string
		a, b []impl.Rule
		want bool
	}{
		{"no rules on either side", nil, nil, true},
		{"no rules of b", wide, nil, true},
		{"no rules of a", nil, wide, false},
		{"the same", wide, wide, true},
		{"the same, out of order and twice", append(slices.Clone(wide), upToTime(20), serversIn(1, 4, 5, 6)), wide, true},
		{"servers: fewer", rules(serversIn(1)), rules(serversIn(1, 4)), true},
		{"servers: the same", rules(serversIn(1, 4)), rules(serversIn(1, 4)), true},
		{"servers: more", rules(serversIn(1, 4)), rules(serversIn(1)), false},
		{"servers: others, as many", rules(serversIn(1, 4)), rules(serversIn(1, 5)), false},
		{"servers: none in common", rules(serversIn(1)), rules(serversIn(2)), false},
		{"servers: a alone", rules(serversIn(1)), nil, true},
		{"servers: b alone", nil, rules(serversIn(1)), false},
		{"servers: b alone, all numbers", nil, rules(serversIn(numbersFrom(0, 31)...)), false},
		{"servers: b alone, no numbers", nil, rules(serversIn()), false},
		{"servers: a has ops", rules(opsIn(1)), rules(serversIn(1)), false},
		{"servers: b has no numbers", rules(serversIn(1)), rules(serversIn()), false},
		{"servers: fewer of two rules together", rules(serversIn(1, 2), serversIn(1, 3)), rules(serversIn(1, 4)), true},
		{"servers: b has fewer of two rules together", rules(serversIn(1, 2)), rules(serversIn(1, 2), serversIn(1, 3)), false},
		{"servers: both of two rules together", rules(serversIn(1, 2), serversIn(1, 3)), rules(serversIn(0, 1), serversIn(1, 4)), true},
		{"ops: fewer", rules(opsIn(30)), rules(opsIn(2, 30)), true},
		{"ops: more", rules(opsIn(2, 30)), rules(opsIn(2)), false},
		{"ops: a alone", rules(opsIn(2)), nil, true},
		{"ops: b alone", nil, rules(opsIn(2)), false},
		{"ops: b alone, no numbers", nil, rules(opsIn()), false},
		{"ops: a has servers", rules(serversIn(2)), rules(opsIn(2)), false},
		{"groups: the same", rules(allGroups(2, 3)), rules(allGroups(2, 3)), true},
		{"groups: more", rules(allGroups(1, 2, 3)), rules(allGroups(2, 3)), true},
		{"groups: fewer", rules(allGroups(2)), rules(allGroups(2, 3)), false},
		{"groups: others, as many", rules(allGroups(2, 4)), rules(allGroups(2, 3)), false},
		{"groups: a alone", rules(allGroups(2)), nil, true},
		{"groups: b alone", nil, rules(allGroups(2)), false},
		{"groups: b alone, no numbers", nil, rules(allGroups()), true},
		{"groups: b has no numbers", rules(allGroups(2)), rules(allGroups()), true},
		{"groups: a has no numbers", rules(allGroups()), rules(allGroups(2)), false},
		{"groups: neither has numbers", rules(allGroups()), rules(allGroups()), true},
		{"groups: more of two rules together", rules(allGroups(2), allGroups(3)), rules(allGroups(2, 3)), true},
		{"groups: b has more of two rules together", rules(allGroups(2)), rules(allGroups(2), allGroups(3)), false},
		{"a time: one less", rules(upToTime(8)), rules(upToTime(9)), true},
		{"a time: the same", rules(upToTime(9)), rules(upToTime(9)), true},
		{"a time: one more", rules(upToTime(10)), rules(upToTime(9)), false},
		{"a time: a alone", rules(upToTime(9)), nil, true},
		{"a time: b alone", nil, rules(upToTime(9)), false},
		{"a time: b alone, MaxTime", nil, rules(upToTime(100000)), false},
		{"a time: a has uses", rules(usesBelow(1)), rules(upToTime(9)), false},
		{"a time: less of two together", rules(upToTime(20), upToTime(8)), rules(upToTime(9)), true},
		{"a time: b has less of two together", rules(upToTime(9)), rules(upToTime(9), upToTime(8)), false},
		{"a time of 0: nothing else", rules(upToTime(0)), rules(serversIn(1)), false},
		{"a time of 0: uses", rules(upToTime(0)), rules(usesBelow(5)), false},
		{"a time of 0: a time", rules(upToTime(0)), rules(upToTime(5)), true},
		{"a time of 0: both", rules(upToTime(0)), rules(upToTime(0)), true},
		{"a time of 0: b", rules(upToTime(1)), rules(upToTime(0)), false},
		{"a time of 0: b alone", nil, rules(upToTime(0)), false},
		{"uses: one less", rules(usesBelow(3)), rules(usesBelow(4)), true},
		{"uses: the same", rules(usesBelow(4)), rules(usesBelow(4)), true},
		{"uses: one more", rules(usesBelow(5)), rules(usesBelow(4)), false},
		{"uses: a alone", rules(usesBelow(4)), nil, true},
		{"uses: b alone", nil, rules(usesBelow(4)), false},
		{"uses: b alone, MaxTime", nil, rules(usesBelow(100000)), false},
		{"uses: a has a time", rules(upToTime(1)), rules(usesBelow(9)), false},
		{"uses of 0: whatever b has", rules(usesBelow(0)), wide, true},
		{"uses of 0: nothing", rules(usesBelow(0)), nil, true},
		{"uses of 0: of two together", rules(usesBelow(5), usesBelow(0)), wide, true},
		{"uses of 0: both", rules(usesBelow(0)), rules(usesBelow(0)), true},
		{"uses of 0: b", rules(usesBelow(1)), rules(usesBelow(0)), false},
		{"uses of 0: b alone", nil, rules(usesBelow(0)), false},
		{"uses of 1", rules(usesBelow(1)), wide, false},
		{"no servers: whatever b has", rules(serversIn()), wide, true},
		{"no servers: b has none, either", rules(serversIn()), rules(serversIn()), true},
		{"no servers: b has no ops", rules(serversIn()), rules(opsIn()), true},
		{"no servers: b has uses of 0", rules(serversIn()), rules(usesBelow(0)), true},
		{"no servers: nothing", rules(serversIn()), nil, true},
		{"no servers: of two together", rules(serversIn(1), serversIn(2)), wide, true},
		{"no servers: of three together", rules(serversIn(0, 1), serversIn(1, 2), serversIn(0, 2)), wide, true},
		{"no servers: of two of three together", rules(serversIn(0, 1), upToTime(50), serversIn(2)), wide, true},
		{"no ops: whatever b has", rules(opsIn()), wide, true},
		{"no ops: behind others", rules(serversIn(9), upToTime(50), opsIn()), wide, true},
		{"no ops: of two together", rules(opsIn(1), opsIn(2)), wide, true},
		{"no ops: nothing", rules(opsIn()), nil, true},
		{"no groups: they allow all", rules(allGroups()), wide, false},
		{"one of wide: servers more", rules(serversIn(1, 4, 5, 6), opsIn(6, 7), allGroups(2, 3), upToTime(9), usesBelow(4)), wide, false},
		{"one of wide: ops more", rules(serversIn(1, 4, 5), opsIn(5, 6, 7), allGroups(2, 3), upToTime(9), usesBelow(4)), wide, false},
		{"one of wide: a group less", rules(serversIn(1, 4, 5), opsIn(6, 7), allGroups(3), upToTime(9), usesBelow(4)), wide, false},
		{"one of wide: later", rules(serversIn(1, 4, 5), opsIn(6, 7), allGroups(2, 3), upToTime(10), usesBelow(4)), wide, false},
		{"one of wide: used more", rules(serversIn(1, 4, 5), opsIn(6, 7), allGroups(2, 3), upToTime(9), usesBelow(5)), wide, false},
		{"less than wide in all", rules(serversIn(4), opsIn(6), allGroups(2, 3, 4), upToTime(8), usesBelow(3)), wide, true},
		{"shown: more servers", shown, rules(serversIn(1, 4, 9)), true},
		{"shown: a server less", shown, rules(serversIn(1)), false},
		{"shown: a group less", shown, rules(allGroups(3)), true},
		{"shown: uses", shown, rules(usesBelow(9)), false},
		{"20 and 20", slices.Repeat(rules(usesBelow(5)), 20), slices.Repeat(rules(usesBelow(5)), 20), true},
		{"21 and 20", slices.Repeat(rules(usesBelow(5)), 21), slices.Repeat(rules(usesBelow(5)), 20), false},
		{"20 and 21", slices.Repeat(rules(usesBelow(5)), 20), slices.Repeat(rules(usesBelow(5)), 21), false},
		{"a allows nothing, b is not right", rules(usesBelow(0)), rules(opsIn(31)), false},
		{"a allows nothing, and is not right", rules(usesBelow(0), opsIn(31)), rules(opsIn(1)), false},
		{"a is not right", rules(opsIn(1, 1)), nil, false},
		{"b is not right", nil, rules(opsIn(1, 1)), false},
		{"both are not right", rules(impl.Rule{}), rules(impl.Rule{}), false},
	} {
		checkStricter(t, c.what, c.a, c.b, c.want)
	}
}

// smallRules are of few numbers, for smallAsks to tell apart.
func smallRules() []impl.Rule {
	l := rules(upToTime(0), upToTime(1), upToTime(2), usesBelow(0), usesBelow(1), usesBelow(2))
	for _, set := range [][]int{nil, {0}, {1}, {0, 1}, {30}, {0, 30}, {0, 1, 30}} {
		l = append(l, serversIn(set...), allGroups(set...))
	}
	return append(l, opsIn(), opsIn(0), opsIn(0, 1))
}

// smallAsks have all that is in smallRules, and what is beside it; nothing was used less than 0 times.
func smallAsks() []impl.Ask {
	var l []impl.Ask
	for _, server := range []int{-1, 0, 1, 29, 30, 31} {
		for op := range 3 {
			for _, groups := range [][]int{nil, {0}, {1}, {30}, {1, 0}, {30, 0}, {1, 30}, {30, 1, 0}} {
				for now := range 4 {
					for used := range 3 {
						l = append(l, impl.Ask{Server: server, Op: op, Groups: groups, Now: now, Used: used})
					}
				}
			}
		}
	}
	return l
}

// allowedOf says of each of the asks whether it is allowed.
func allowedOf(l []impl.Rule, asks []impl.Ask) []bool {
	yes := make([]bool, len(asks))
	for i, a := range asks {
		yes[i] = impl.Allows(l, a)
	}
	return yes
}

// Promise 17 of all rules of a few numbers, two of a kind among them; what is not Stricter allows some more.
func TestSmallRules(t *testing.T) {
	asks := smallAsks()
	lists := [][]impl.Rule{nil}
	for i, x := range smallRules() {
		lists = append(lists, rules(x))
		for _, y := range smallRules()[:i] {
			lists = append(lists, rules(x, y))
		}
	}
	allowed := make([][]bool, len(lists))
	for i, l := range lists {
		checkRules(t, "small", l)
		allowed[i] = allowedOf(l, asks)
		if normal := allowedOf(impl.Normal(l), asks); !slices.Equal(normal, allowed[i]) {
			t.Fatalf("Normal(%+v) = %+v allows something else", l, impl.Normal(l))
		}
		for j, a := range asks {
			if allowed[i][j] != plainAllows(l, a) {
				t.Fatalf("Allows(%+v, %+v) = %v", l, a, allowed[i][j])
			}
		}
	}
	for i, a := range lists {
		for j, b := range lists {
			more := slices.ContainsFunc(numbersFrom(0, len(asks)), func(k int) bool { return allowed[i][k] && !allowed[j][k] })
			if stricter := impl.Stricter(a, b); stricter == more || stricter != plainStricter(a, b) {
				t.Fatalf("Stricter(%+v, %+v) = %v; what a allows more: %v", a, b, stricter, more)
			}
		}
	}
}

func TestSmallRulesJoined(t *testing.T) {
	asks := smallAsks()
	small := append([][]impl.Rule{nil}, someRules()...)
	for _, x := range smallRules() {
		small = append(small, rules(x))
	}
	for _, a := range small {
		for _, b := range small {
			checkJoined(t, "small", a, b)
			own, other, both := allowedOf(a, asks), allowedOf(b, asks), allowedOf(impl.Joined(a, b), asks)
			for k := range asks {
				if both[k] != (own[k] && other[k]) {
					t.Fatalf("Joined(%+v, %+v) = %+v allows %+v: %v", a, b, impl.Joined(a, b), asks[k], both[k])
				}
			}
		}
	}
}

func TestShowRules(t *testing.T) {
	for _, c := range []struct {
		l    []impl.Rule
		want string
	}{
		{nil, "\x00"},
		{[]impl.Rule{}, "\x00"},
		{rules(serversIn()), "\x01\x01\x00\x00"},
		{rules(allGroups(0)), "\x01\x03\x00\x01\x00"},
		{rules(opsIn(2, 30), upToTime(300)), "\x02\x02\x00\x02\x02\x1e\x04\xac\x02\x00"},
		{rules(usesBelow(0)), "\x01\x05\x00\x00"},
		{rules(usesBelow(127), usesBelow(128), usesBelow(100000)), "\x03\x05\x7f\x00\x05\x80\x01\x00\x05\xa0\x8d\x06\x00"},
		{rules(serversIn(numbersFrom(0, 31)...)), "\x01\x01\x00\x1f\x00\x01\x02\x03\x04\x05\x06\x07\x08\x09\x0a\x0b\x0c\x0d\x0e\x0f\x10\x11\x12\x13\x14\x15\x16\x17\x18\x19\x1a\x1b\x1c\x1d\x1e"},
		{rules(usesBelow(3), serversIn(1), usesBelow(3)), "\x03\x05\x03\x00\x01\x00\x01\x01\x05\x03\x00"},
		{slices.Repeat(rules(upToTime(1)), 20), "\x14" + strings.Repeat("\x04\x01\x00", 20)},
		{slices.Repeat(rules(upToTime(1)), 21), ""},
		{rules(impl.Rule{}), ""},
		{rules(opsIn(1), opsIn(31)), ""},
	} {
		checkRules(t, "shown", c.l)
		if got := impl.ShowRules(c.l); got != c.want {
			t.Errorf("ShowRules(%+v) = %q, not %q", c.l, got, c.want)
		}
	}
}

func TestReadRules(t *testing.T) {
	full := rules(serversIn(numbersFrom(0, 31)...))
	for _, c := range []struct {
		what string
		s    string
		want []impl.Rule
		ok   bool
	}{
		{"the empty text", "", nil, false},
		{"no rules", "\x00", nil, true},
		{"no rules and a byte more", "\x00\x00", nil, false},
		{"one rule that is not there", "\x01", nil, false},
		{"a Kind alone", "\x01\x04", nil, false},
		{"a Kind and N alone", "\x01\x04\x09", nil, false},
		{"a rule", "\x01\x04\x09\x00", rules(upToTime(9)), true},
		{"a rule and a byte more", "\x01\x04\x09\x00\x00", nil, false},
		{"a rule more than it says", "\x01\x04\x09\x00\x04\x09\x00", nil, false},
		{"a rule less than it says", "\x02\x04\x09\x00", nil, false},
		{"says 20", "\x14" + strings.Repeat("\x05\x03\x00", 20), slices.Repeat(rules(usesBelow(3)), 20), true},
		{"says 20, has 19", "\x14" + strings.Repeat("\x05\x03\x00", 19), nil, false},
		{"says 20, has 21", "\x14" + strings.Repeat("\x05\x03\x00", 21), nil, false},
		{"says 21", "\x15" + strings.Repeat("\x05\x03\x00", 21), nil, false},
		{"says 21, has 20", "\x15" + strings.Repeat("\x05\x03\x00", 20), nil, false},
		{"says 128", "\x80\x01" + strings.Repeat("\x05\x03\x00", 128), nil, false},
		{"says MaxVar", impl.Var(impl.MaxVar) + strings.Repeat("\x05\x03\x00", 20), nil, false},
		{"says MaxVar, and no more", impl.Var(impl.MaxVar), nil, false},
		{"a Set of 31", "\x01\x01\x00\x1f" + rawRules(full)[4:], full, true},
		{"a Set of 32", "\x01\x01\x00\x20" + rawRules(full)[4:] + "\x1f", nil, false},
		{"a Set of 32 that has 31", "\x01\x01\x00\x20" + rawRules(full)[4:], nil, false},
		{"a Set of 30 that has 31", "\x01\x01\x00\x1e" + rawRules(full)[4:], nil, false},
		{"a Set of MaxVar", "\x01\x01\x00" + impl.Var(impl.MaxVar), nil, false},
		{"a Set of MaxVar, and some", "\x01\x01\x00" + impl.Var(impl.MaxVar) + strings.Repeat("\x01", 1000), nil, false},
		{"Kind 0", "\x01\x00\x00\x00", nil, false},
		{"Kind 5", "\x01\x05\x00\x00", rules(usesBelow(0)), true},
		{"Kind 6", "\x01\x06\x00\x00", nil, false},
		{"a Kind of MaxVar", "\x01" + impl.Var(impl.MaxVar) + "\x00\x00", nil, false},
		{"N of MaxTime", "\x01\x04" + impl.Var(100000) + "\x00", rules(upToTime(100000)), true},
		{"N one past MaxTime", "\x01\x04" + impl.Var(100001) + "\x00", nil, false},
		{"N of MaxVar", "\x01\x05" + impl.Var(impl.MaxVar) + "\x00", nil, false},
		{"servers with a N", "\x01\x01\x01\x00", nil, false},
		{"a time with a Set", "\x01\x04\x09\x01\x00", nil, false},
		{"a Set that has 30", "\x01\x03\x00\x01\x1e", rules(allGroups(30)), true},
		{"a Set that has 31", "\x01\x03\x00\x01\x1f", nil, false},
		{"a Set that has MaxVar", "\x01\x03\x00\x01" + impl.Var(impl.MaxVar), nil, false},
		{"a Set that falls", "\x01\x01\x00\x02\x02\x01", nil, false},
		{"a Set with two alike", "\x01\x01\x00\x02\x02\x02", nil, false},
		{"the count with a byte too many", "\x81\x00\x04\x09\x00", nil, false},
		{"none, with a byte too many", "\x80\x00", nil, false},
		{"Kind with a byte too many", "\x01\x84\x00\x09\x00", nil, false},
		{"N with a byte too many", "\x01\x04\x89\x00\x00", nil, false},
		{"the length with a byte too many", "\x01\x04\x09\x80\x00", nil, false},
		{"a number with a byte too many", "\x01\x01\x00\x01\x81\x00", nil, false},
		{"a number that comes no end", "\x01\x01\x00\x01\x80", nil, false},
		{"bytes that are no number", strings.Repeat("\xff", 8), nil, false},
		{"many bytes", "\x01\x04\x09\x00" + strings.Repeat("\x00", 1<<20), nil, false},
	} {
		checkReadRules(t, c.what, c.s, c.want, c.ok)
		if checkAnyText(t, c.what, c.s) != c.ok {
			t.Errorf("%s: the chapter says of %q: %v", c.what, c.s, !c.ok)
		}
	}
	for what, x := range wrongRules() {
		if x.Kind < 0 || x.Kind > 300 || x.N < 0 || x.N > 200000 || slices.ContainsFunc(x.Set, func(n int) bool { return n < 0 || n > 300 }) {
			// These have no text.
			continue
		}
		for _, l := range [][]impl.Rule{rules(x), rules(x, usesBelow(3)), rules(opsIn(3), x)} {
			checkReadRules(t, what, rawRules(l), nil, false)
		}
	}
}

func TestReadRulesCutShortOrWithMore(t *testing.T) {
	for _, l := range append(someRules(), rules(serversIn(numbersFrom(0, 31)...)), rules(upToTime(300), usesBelow(100000)), slices.Repeat(rules(opsIn(1, 2)), 20)) {
		s := impl.ShowRules(l)
		checkReadRules(t, "as they were", s, l, true)
		for cut := range len(s) {
			checkReadRules(t, "cut short", s[:cut], nil, false)
		}
		for b := range 256 {
			checkReadRules(t, "with a byte more", s+string([]byte{byte(b)}), nil, false)
		}
		checkReadRules(t, "twice", s+s, nil, false)
	}
}

// All short texts, and shown ones changed by a byte.
func TestReadRulesTakesNothingElse(t *testing.T) {
	taken := 0
	check := func(s string) {
		t.Helper()
		if checkAnyText(t, "a text", s) {
			taken++
		}
	}
	everyText("\x00\x01\x02\x04\x1f\x80", 6, check)
	// One rule, or two, of any few numbers.
	everyText("\x00\x01\x03\x05", 7, func(s string) { check("\x01" + s); check("\x02" + s) })
	for _, l := range someRules() {
		s := impl.ShowRules(l)
		for i := range len(s) {
			check(s[:i] + s[i+1:])
			for b := range 256 {
				check(s[:i] + string([]byte{byte(b)}) + s[i+1:])
				check(s[:i] + string([]byte{byte(b)}) + s[i:])
			}
		}
	}
	if taken < 1000 {
		t.Errorf("only %d texts were taken", taken)
	}
}

// anyNumbers rise, from 0 to 30; few of them, or many.
func anyNumbers(r *rand.Rand) []int {
	var l []int
	share := anyOf(r, []int{1, 2, 8, 15, 30})
	for n := range 31 {
		if r.Intn(31) < share {
			l = append(l, n)
		}
	}
	return l
}

// anyRule is right, but here and there where wrong is above 0.
func anyRule(r *rand.Rand, wrong int) impl.Rule {
	x := impl.Rule{Kind: 1 + r.Intn(5)}
	if x.Kind <= 3 {
		x.Set = anyNumbers(r)
	} else {
		x.N = anyOf(r, []int{0, 1, 2, 100000, r.Intn(10), r.Intn(300), r.Intn(100001)})
	}
	if wrong == 0 || r.Intn(wrong) > 0 {
		return x
	}
	switch r.Intn(4) {
	case 0:
		x.Kind = anyOf(r, []int{-1, 0, 6, 1 + r.Intn(5), math.MaxInt, math.MinInt})
	case 1:
		x.N = anyOf(r, []int{-1, 1, 100001, math.MaxInt, math.MinInt})
	case 2:
		x.Set = append(x.Set, anyOf(r, []int{-1, 0, 30, 31, math.MaxInt, math.MinInt}))
	case 3:
		slices.Reverse(x.Set)
	}
	return x
}

func anyRules(r *rand.Rand, most, wrong int) []impl.Rule {
	var l []impl.Rule
	for range r.Intn(most + 1) {
		l = append(l, anyRule(r, wrong))
	}
	return l
}

// anyAsk is one that the rules may just allow, or just not.
func anyAsk(r *rand.Rand, l []impl.Rule) impl.Ask {
	a := impl.Ask{Server: r.Intn(33) - 1, Op: r.Intn(33) - 1, Groups: anyNumbers(r), Now: r.Intn(12), Used: r.Intn(12)}
	for _, x := range l {
		if r.Intn(4) == 0 {
			continue
		}
		near := x.N + r.Intn(3) - 1
		switch {
		case x.Kind == 1 && len(x.Set) > 0:
			a.Server = anyOf(r, x.Set)
		case x.Kind == 2 && len(x.Set) > 0:
			a.Op = anyOf(r, x.Set)
		case x.Kind == 3:
			a.Groups = append(a.Groups, x.Set...)
		case x.Kind == 4 && (near < a.Now || r.Intn(3) == 0):
			a.Now = near
		case x.Kind == 5 && (near < a.Used || r.Intn(3) == 0):
			a.Used = max(0, near)
		}
	}
	r.Shuffle(len(a.Groups), func(i, j int) { a.Groups[i], a.Groups[j] = a.Groups[j], a.Groups[i] })
	return a
}

// narrowed are rules that ask what others do, and more of it, in another order.
func narrowed(r *rand.Rand, l []impl.Rule) []impl.Rule {
	l = copiedRules(l)
	for i := range l {
		x := &l[i]
		switch {
		case r.Intn(2) == 0:
		case x.Kind <= 2 && len(x.Set) > 1:
			x.Set = slices.Delete(x.Set, 0, 1)
		case x.Kind == 3:
			x.Set = numbersFrom(0, 31)
		case x.Kind >= 4:
			x.N = max(0, x.N-r.Intn(3))
		}
	}
	r.Shuffle(len(l), func(i, j int) { l[i], l[j] = l[j], l[i] })
	return l
}

// checkNothingMore asks for promise 17 of two: what is Stricter allows nothing more.
func checkNothingMore(t *testing.T, a, b []impl.Rule, ask impl.Ask) bool {
	t.Helper()
	stricter := impl.Stricter(a, b)
	if stricter != plainStricter(a, b) {
		t.Fatalf("Stricter(%+v, %+v) = %v", a, b, stricter)
	}
	if stricter && ask.Used >= 0 && impl.Allows(a, ask) && !impl.Allows(b, ask) {
		t.Fatalf("%+v is Stricter than %+v, but it alone allows %+v", a, b, ask)
	}
	return stricter
}

func TestRulesAtRandom(t *testing.T) {
	r := rand.New(rand.NewSource(17))
	allowed, refused, stricter, not, wrong := 0, 0, 0, 0, 0
	for range 5000 {
		most := anyOf(r, []int{1, 3, 6, 12, 22})
		a, b := anyRules(r, most, anyOf(r, []int{0, 20})), anyRules(r, most, anyOf(r, []int{0, 20}))
		if r.Intn(3) == 0 {
			a = append(narrowed(r, b), anyRules(r, 2, 0)...)
		}
		if !checkRules(t, "any", a) {
			wrong++
		}
		checkJoined(t, "any", a, b)
		for range 6 {
			ask := anyAsk(r, anyOf(r, [][]impl.Rule{a, b, append(slices.Clone(a), b...)}))
			yes := plainAllows(a, ask)
			checkAllows(t, "any", a, ask, yes)
			checkJoinedAllows(t, "any", a, b, ask)
			checkNothingMore(t, impl.Joined(a, b), b, ask)
			if yes {
				allowed++
			} else {
				refused++
			}
			if checkNothingMore(t, a, b, ask) {
				stricter++
			} else {
				not++
			}
		}
		if plainRulesOk(a) && plainRulesOk(b) && len(a)+len(b) <= 20 {
			both := impl.Joined(a, b)
			if !impl.Stricter(both, a) || !impl.Stricter(both, b) || !impl.Stricter(a, a) || !impl.Stricter(impl.Normal(a), a) || !impl.Stricter(a, impl.Normal(a)) {
				t.Fatalf("of %+v and %+v, joined as %+v, one is not Stricter than what it is made of", a, b, both)
			}
			if !sameRules(both, impl.Joined(b, a)) {
				t.Fatalf("Joined of %+v and %+v is another one when turned round", a, b)
			}
		}
	}
	if allowed < 3000 || refused < 3000 || stricter < 3000 || not < 3000 || wrong < 300 {
		t.Errorf("%d allowed, %d refused, %d stricter, %d not, %d not right", allowed, refused, stricter, not, wrong)
	}
}

func TestAnyTextOfRules(t *testing.T) {
	r := rand.New(rand.NewSource(1017))
	taken, refused := 0, 0
	for range 8000 {
		l := anyRules(r, anyOf(r, []int{1, 4, 20}), 0)
		s := impl.ShowRules(l)
		checkReadRules(t, "as they were", s, l, true)
		for range 8 {
			if checkAnyText(t, "turned", turnedText(r, s)) {
				taken++
			} else {
				refused++
			}
		}
	}
	if taken < 500 || refused < 5000 {
		t.Errorf("%d texts were taken, %d refused", taken, refused)
	}
}

// No two right ones have one text.
func TestRulesShownAreUnlike(t *testing.T) {
	texts := map[string][]impl.Rule{}
	all := append(smallRules(), usesBelow(128), upToTime(16384), opsIn(1, 2), opsIn(1, 3))
	for _, x := range all {
		for _, y := range all {
			for _, l := range [][]impl.Rule{rules(x), rules(x, y)} {
				s := impl.ShowRules(l)
				if other, ok := texts[s]; ok && !sameRules(other, l) {
					t.Errorf("%+v and %+v are both shown as %q", other, l, s)
				}
				texts[s] = l
			}
		}
	}
}

func TestRulesInOtherOrders(t *testing.T) {
	// What is told does not hang on what was told ahead of it, nor on what was written into that.
	for range 3 {
		for _, l := range someRules() {
			before := copiedRules(l)
			first, joined := impl.Normal(l), impl.Joined(l, l)
			back, _ := impl.ReadRules(impl.ShowRules(l))
			for _, answer := range [][]impl.Rule{first, joined, back} {
				for i := range answer {
					overwritten(answer[i].Set, -1)
				}
				overwritten(answer, impl.Rule{})
			}
			if !sameRules(l, before) || !sameRules(impl.Normal(l), plainNormal(l)) || !sameRules(impl.Joined(l, l), plainNormal(l)) {
				t.Errorf("%+v is %+v behind that", before, l)
			}
			checkReadRules(t, "once more", impl.ShowRules(l), l, true)
		}
	}
}
