package tests

import (
	"math"
	"reflect"
	"slices"
	"testing"

	"loop.example/g00769/impl"
)

// Numbers around those of realms, services and principals, and far from them.
var numbersAround = []int{math.MinInt, math.MinInt + 1, -1000000, -4, -3, -2, -1, 0, 1, 2, 3, 4, 5, 6, 7, 9, 10, 11, 12, 13, 21, 31, 100, 101, 1000000, math.MaxInt - 1, math.MaxInt}

// pairs are numbers two by two.
func pairs(numbers ...int) []impl.Pair {
	var l []impl.Pair
	for two := range slices.Chunk(numbers, 2) {
		l = append(l, impl.Pair{A: two[0], B: two[1]})
	}
	return l
}

var unlikePairs = pairs(0, 1, 0, 2, 1, 0, 1, 2, 2, 0, 2, 1)

// linkedBy is a right Config with these Links.
func linkedBy(links []impl.Pair) impl.Config {
	return impl.Config{UserRealm: []int{2, 0, 1}, ServiceRealm: []int{1, 1, 0}, Links: links, Proxy: pairs(0, 1), Skew: 5}
}

func someConfig() impl.Config { return linkedBy(pairs(0, 1, 1, 2, 2, 0)) }

// someOf are those whose bit is set.
func someOf(all []impl.Pair, bits int) []impl.Pair {
	var l []impl.Pair
	for i, p := range all {
		if bits>>i&1 == 1 {
			l = append(l, p)
		}
	}
	return l
}

func isThree(n int) bool { return n == 0 || n == 1 || n == 2 }

func plainPairsOk(l []impl.Pair, alike bool) bool {
	if len(l) > 6 {
		return false
	}
	for i, p := range l {
		if !isThree(p.A) || !isThree(p.B) || !alike && p.A == p.B || slices.Contains(l[i+1:], p) {
			return false
		}
	}
	return true
}

func plainConfigOk(c impl.Config) bool {
	return len(c.UserRealm) == 3 && plainThree(c.UserRealm) && len(c.ServiceRealm) == 3 && plainThree(c.ServiceRealm) &&
		plainPairsOk(c.Links, false) && plainPairsOk(c.Proxy, true) && c.Skew >= 0 && c.Skew <= 20
}

// plainLinks are the fewest Links of a way, by trying each one of that many; 0 where there is none.
func plainLinks(c impl.Config, from, to int) int {
	for count := 1; count <= 3; count++ {
		if plainWay(c, from, to, count) {
			return count
		}
	}
	return 0
}

func plainWay(c impl.Config, from, to, count int) bool {
	if count == 0 {
		return from == to
	}
	return slices.ContainsFunc(c.Links, func(l impl.Pair) bool { return l.A == from && plainWay(c, l.B, to, count-1) })
}

func plainHop(c impl.Config, from, to int) int {
	if !plainConfigOk(c) || !isThree(from) || !isThree(to) || from == to {
		return -1
	}
	fewest := plainLinks(c, from, to)
	for next := range 3 {
		if fewest > 0 && slices.Contains(c.Links, impl.Pair{A: from, B: next}) && plainWay(c, next, to, fewest-1) {
			return next
		}
	}
	return -1
}

// checkConfig asks all that is asked of a Config, and that it stays as it was.
func checkConfig(t *testing.T, what string, c impl.Config, want bool) {
	t.Helper()
	before := impl.Config{
		UserRealm: slices.Clone(c.UserRealm), ServiceRealm: slices.Clone(c.ServiceRealm),
		Links: slices.Clone(c.Links), Proxy: slices.Clone(c.Proxy), Skew: c.Skew,
	}
	if got := impl.ConfigOk(c); got != want || plainConfigOk(c) != want {
		t.Errorf("%s: ConfigOk of %+v is %v, not %v", what, c, got, want)
	}
	for _, p := range numbersAround {
		realm := -1
		if want && p >= 0 && p < 3 {
			realm = c.UserRealm[p]
		} else if want && p >= 3 && p < 6 {
			realm = c.ServiceRealm[p-3]
		}
		if got := impl.RealmOf(c, p); got != realm {
			t.Errorf("%s: RealmOf %d in %+v is %d, not %d", what, p, c, got, realm)
		}
	}
	for _, from := range numbersAround {
		for _, to := range numbersAround {
			if got, hop := impl.NextHop(c, from, to), plainHop(c, from, to); got != hop {
				t.Errorf("%s: NextHop from %d to %d in %+v is %d, not %d", what, from, to, c, got, hop)
			}
		}
	}
	if !reflect.DeepEqual(c, before) {
		t.Errorf("%s: %+v was changed to %+v", what, before, c)
	}
}

func TestRealmLimits(t *testing.T) {
	if impl.FirstFresh != 101 || impl.Life != 50 {
		t.Error(impl.FirstFresh, impl.Life)
	}
}

func TestRealmsOfUsersAndServices(t *testing.T) {
	type realms struct {
		what string
		l    []int
		ok   bool
	}
	lists := []realms{
		{"all in one", []int{0, 0, 0}, true},
		{"all in the last one", []int{2, 2, 2}, true},
		{"each in its own", []int{0, 1, 2}, true},
		{"turned round", []int{2, 1, 0}, true},
		{"none", nil, false},
		{"none, not nil", []int{}, false},
		{"one", []int{0}, false},
		{"one too few", []int{0, 1}, false},
		{"one too many", []int{0, 1, 2, 0}, false},
		{"twice as many", []int{0, 1, 2, 0, 1, 2}, false},
	}
	for place := range 3 {
		for _, n := range numbersAround {
			l := []int{0, 1, 2}
			l[place] = n
			lists = append(lists, realms{"another number", l, isThree(n)})
		}
	}
	for _, x := range lists {
		c := someConfig()
		c.UserRealm = x.l
		checkConfig(t, "users: "+x.what, c, x.ok)
		c = someConfig()
		c.ServiceRealm = x.l
		checkConfig(t, "services: "+x.what, c, x.ok)
	}
	checkConfig(t, "the zero one", impl.Config{}, false)
	checkConfig(t, "the least one", impl.Config{UserRealm: []int{0, 0, 0}, ServiceRealm: []int{0, 0, 0}}, true)
}

func TestLinksAndProxy(t *testing.T) {
	for _, x := range []struct {
		what    string
		l       []impl.Pair
		asLinks bool
		asProxy bool
	}{
		{"none", nil, true, true},
		{"none, not nil", []impl.Pair{}, true, true},
		{"one", pairs(2, 1), true, true},
		{"both directions", pairs(0, 1, 1, 0), true, true},
		{"six", unlikePairs, true, true},
		{"six and one of them again", append(slices.Clone(unlikePairs), unlikePairs[0]), false, false},
		{"six and one of two alike", append(slices.Clone(unlikePairs), impl.Pair{}), false, false},
		{"six, one of two alike among them", pairs(0, 1, 0, 2, 1, 0, 1, 2, 2, 0, 2, 2), false, true},
		{"six, one of them twice", pairs(0, 1, 0, 2, 1, 0, 1, 2, 2, 0, 0, 1), false, false},
		{"a pair twice", pairs(0, 1, 0, 1), false, false},
		{"a pair twice, not side by side", pairs(1, 2, 0, 1, 1, 2), false, false},
		{"two alike", pairs(0, 0), false, true},
		{"two alike at the end", pairs(0, 1, 2, 2), false, true},
		{"two alike, twice", pairs(1, 1, 1, 1), false, false},
		{"all of two alike", pairs(0, 0, 1, 1, 2, 2), false, true},
		{"services as principals", pairs(3, 4), false, false},
		{"centres", pairs(10, 11), false, false},
	} {
		c := someConfig()
		c.Links = x.l
		checkConfig(t, "Links: "+x.what, c, x.asLinks)
		c = someConfig()
		c.Proxy = x.l
		checkConfig(t, "Proxy: "+x.what, c, x.asProxy)
	}
}

func TestPairsOfEachTwoNumbers(t *testing.T) {
	for _, a := range numbersAround {
		for _, b := range numbersAround {
			for place := range 2 {
				c := someConfig()
				c.Links = slices.Insert(pairs(2, 0), place, impl.Pair{A: a, B: b})
				fit := isThree(a) && isThree(b) && (a != 2 || b != 0)
				if got := impl.ConfigOk(c); got != (fit && a != b) {
					t.Errorf("Links %+v: %v", c.Links, got)
				}
				c = someConfig()
				c.Proxy = slices.Insert(pairs(2, 0), place, impl.Pair{A: a, B: b})
				if got := impl.ConfigOk(c); got != fit {
					t.Errorf("Proxy %+v: %v", c.Proxy, got)
				}
			}
		}
	}
}

func TestEachChoiceOfNineProxies(t *testing.T) {
	all := pairs(0, 0, 0, 1, 0, 2, 1, 0, 1, 1, 1, 2, 2, 0, 2, 1, 2, 2)
	for bits := range 1 << len(all) {
		c := someConfig()
		c.Proxy = someOf(all, bits)
		if got := impl.ConfigOk(c); got != (len(c.Proxy) <= 6) {
			t.Errorf("%d pairs, %+v: %v", len(c.Proxy), c.Proxy, got)
		}
	}
}

func TestSkew(t *testing.T) {
	for _, skew := range append([]int{8, 19, 20, 22}, numbersAround...) {
		c := someConfig()
		c.Skew = skew
		checkConfig(t, "skew", c, skew >= 0 && skew <= 20)
	}
}

func TestKeysOfPrincipalsAndCentres(t *testing.T) {
	principals := map[int]int{0: 1, 1: 2, 2: 3, 3: 11, 4: 12, 5: 13}
	centres := map[int]int{0: 21, 1: 22, 2: 23}
	for _, n := range append(numbersFrom(-20, 140), numbersAround...) {
		if got := impl.PrincipalKey(n); got != principals[n] {
			t.Errorf("PrincipalKey of %d is %d, not %d", n, got, principals[n])
		}
		if got := impl.CentreKey(n); got != centres[n] {
			t.Errorf("CentreKey of %d is %d, not %d", n, got, centres[n])
		}
	}
}

func TestKeysOfLinks(t *testing.T) {
	keys := map[impl.Pair]int{
		{A: 0, B: 0}: 31, {A: 0, B: 1}: 32, {A: 0, B: 2}: 33,
		{A: 1, B: 0}: 34, {A: 1, B: 1}: 35, {A: 1, B: 2}: 36,
		{A: 2, B: 0}: 37, {A: 2, B: 1}: 38, {A: 2, B: 2}: 39,
	}
	for _, a := range numbersAround {
		for _, b := range numbersAround {
			if got, want := impl.LinkKey(a, b), keys[impl.Pair{A: a, B: b}]; got != want {
				t.Errorf("LinkKey of %d and %d is %d, not %d", a, b, got, want)
			}
		}
	}
}

func TestKeysFromTheBeginningAreUnlike(t *testing.T) {
	var keys []int
	for p := range impl.Users + impl.Services {
		keys = append(keys, impl.PrincipalKey(p))
	}
	for a := range impl.Realms {
		keys = append(keys, impl.CentreKey(a))
		for b := range impl.Realms {
			keys = append(keys, impl.LinkKey(a, b))
		}
	}
	slices.Sort(keys)
	if len(keys) != 18 || len(slices.Compact(slices.Clone(keys))) != 18 {
		t.Errorf("alike ones: %v", keys)
	}
	if keys[0] < 1 || keys[len(keys)-1] >= impl.FirstFresh {
		t.Errorf("out of bounds: %v", keys)
	}
}

func TestRealmOf(t *testing.T) {
	c := impl.Config{UserRealm: []int{2, 0, 1}, ServiceRealm: []int{0, 2, 2}}
	for p, want := range map[int]int{-1: -1, 0: 2, 1: 0, 2: 1, 3: 0, 4: 2, 5: 2, 6: -1, 10: -1, math.MinInt: -1, math.MaxInt: -1} {
		if got := impl.RealmOf(c, p); got != want {
			t.Errorf("of %d: %d, not %d", p, got, want)
		}
	}
	c.Skew = 21
	for p := range 6 {
		if got := impl.RealmOf(c, p); got != -1 {
			t.Errorf("of %d in what is not right: %d", p, got)
		}
	}
}

func TestNextHop(t *testing.T) {
	for _, x := range []struct {
		what  string
		links []impl.Pair
		from  int
		to    int
		want  int
	}{
		{"linked", pairs(0, 1), 0, 1, 1},
		{"linked, to the least", pairs(2, 0), 2, 0, 0},
		{"the other way round", pairs(0, 1), 1, 0, -1},
		{"two Links away", pairs(0, 1, 1, 2), 0, 2, 1},
		{"two Links away, told from the end", pairs(1, 2, 0, 1), 0, 2, 1},
		{"two Links away by the greatest", pairs(0, 2, 2, 1), 0, 1, 2},
		{"two Links away by the least", pairs(2, 0, 0, 1), 2, 1, 0},
		{"no way back", pairs(0, 1, 1, 2), 2, 0, -1},
		{"no way back from between", pairs(0, 1, 1, 2), 1, 0, -1},
		{"one Link ahead of two by a lesser realm", pairs(1, 0, 0, 2, 1, 2), 1, 2, 2},
		{"one Link ahead of two by a greater realm", pairs(0, 2, 2, 1, 0, 1), 0, 1, 1},
		{"round, a Link", pairs(0, 1, 1, 2, 2, 0), 2, 0, 0},
		{"round, two Links", pairs(0, 1, 1, 2, 2, 0), 1, 0, 2},
		{"round the other way", pairs(0, 2, 2, 1, 1, 0), 0, 1, 2},
		{"round between two, and not out", pairs(0, 1, 1, 0), 0, 2, -1},
		{"round between two, from outside", pairs(0, 1, 1, 0), 2, 1, -1},
		{"round between two, and out behind", pairs(0, 1, 1, 0, 1, 2), 0, 2, 1},
		{"round between two, entered", pairs(0, 1, 1, 0, 2, 0), 2, 1, 0},
		{"all linked", unlikePairs, 1, 0, 0},
		{"no Links", nil, 0, 1, -1},
		{"from where only others lead to", pairs(0, 2, 1, 2), 2, 0, -1},
		{"to where no Link leads", pairs(0, 1, 1, 0, 2, 0, 2, 1), 0, 2, -1},
		{"alike", unlikePairs, 1, 1, -1},
		{"alike, where it goes round", pairs(0, 1, 1, 2, 2, 0), 0, 0, -1},
		{"from below", unlikePairs, -1, 0, -1},
		{"from behind", unlikePairs, 3, 0, -1},
		{"to below", unlikePairs, 0, -1, -1},
		{"to behind", unlikePairs, 0, 3, -1},
		{"a Link twice", pairs(0, 1, 0, 1), 0, 1, -1},
		{"a Link of two alike", pairs(0, 1, 2, 2), 0, 1, -1},
		{"a Link to what is no realm", pairs(0, 1, 1, 3), 0, 1, -1},
	} {
		if got := impl.NextHop(linkedBy(x.links), x.from, x.to); got != x.want {
			t.Errorf("%s: from %d to %d along %+v: %d, not %d", x.what, x.from, x.to, x.links, got, x.want)
		}
	}
}

func TestNextHopNeedsTheWholeConfig(t *testing.T) {
	for what, spoil := range map[string]func(c *impl.Config){
		"users":    func(c *impl.Config) { c.UserRealm = []int{0, 1} },
		"services": func(c *impl.Config) { c.ServiceRealm = []int{0, 1, 3} },
		"proxy":    func(c *impl.Config) { c.Proxy = pairs(0, 1, 0, 1) },
		"skew":     func(c *impl.Config) { c.Skew = -1 },
	} {
		c := linkedBy(unlikePairs)
		spoil(&c)
		checkConfig(t, what, c, false)
	}
}

// Of three realms no two ways that have the fewest Links are as long; each choice of Links is asked, told in its order and turned round.
func TestNextHopOfEachChoiceOfLinks(t *testing.T) {
	for bits := range 1 << len(unlikePairs) {
		c := linkedBy(someOf(unlikePairs, bits))
		checkConfig(t, "links", c, true)
		turned := linkedBy(slices.Clone(c.Links))
		slices.Reverse(turned.Links)
		checkConfig(t, "links turned round", turned, true)
	}
}

func TestNextHopIsNearerAndGetsThere(t *testing.T) {
	for bits := range 1 << len(unlikePairs) {
		c := linkedBy(someOf(unlikePairs, bits))
		for from := range 3 {
			for to := range 3 {
				left := plainLinks(c, from, to)
				if from == to || left == 0 {
					continue
				}
				for at := from; at != to; {
					next := impl.NextHop(c, at, to)
					if !slices.Contains(c.Links, impl.Pair{A: at, B: next}) {
						t.Fatalf("from %d to %d along %+v: %d is no hop from %d", from, to, c.Links, next, at)
					}
					left--
					if next != to && plainLinks(c, next, to) != left || next == to && left != 0 {
						t.Fatalf("from %d to %d along %+v: %d is not nearer than %d", from, to, c.Links, next, at)
					}
					at = next
				}
			}
		}
	}
}

func TestNextHopHangsOnLinksAlone(t *testing.T) {
	for bits := range 1 << len(unlikePairs) {
		c := linkedBy(someOf(unlikePairs, bits))
		other := impl.Config{UserRealm: []int{0, 0, 0}, ServiceRealm: []int{2, 2, 2}, Links: c.Links, Proxy: pairs(2, 0, 1, 2), Skew: 20}
		for from := range 3 {
			for to := range 3 {
				if impl.NextHop(c, from, to) != impl.NextHop(other, from, to) {
					t.Errorf("from %d to %d along %+v", from, to, c.Links)
				}
			}
		}
	}
}

func TestRealmsLeaveTheRoomBehindTheirLists(t *testing.T) {
	room := slices.Repeat([]int{2}, 8)
	pairRoom := append(slices.Clone(unlikePairs), unlikePairs...)
	c := impl.Config{UserRealm: room[:3], ServiceRealm: room[4:7], Links: pairRoom[:2], Proxy: pairRoom[6:8], Skew: 5}
	checkConfig(t, "with room", c, true)
	if !slices.Equal(room, slices.Repeat([]int{2}, 8)) || !slices.Equal(pairRoom, append(slices.Clone(unlikePairs), unlikePairs...)) {
		t.Errorf("changed: %v, %+v", room, pairRoom)
	}
}
