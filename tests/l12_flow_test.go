package tests

import (
	"math/rand"
	"slices"
	"testing"

	"loop.example/g00769/impl"
)

// The straight way by plain words: what the tests hold the program's answers against.

// plainRealms are those that one comes by from a principal's realm to a service's, both of them with it; nothing where there is no way.
func plainRealms(c impl.Config, p, s int) []int {
	from, to := plainRealmOf(c, p), plainRealmOf(c, 3+s)
	switch {
	case from == to:
		return []int{to}
	case slices.Contains(c.Links, impl.Pair{A: from, B: to}):
		return []int{from, to}
	}
	other := 3 - from - to
	if slices.Contains(c.Links, impl.Pair{A: from, B: other}) && slices.Contains(c.Links, impl.Pair{A: other, B: to}) {
		return []int{from, other, to}
	}
	return nil
}

// plainScript is the straight way by one, two or three realms, each act with the numbers that it has there.
func plainScript(p, s int, r impl.Rest, op int, realms ...int) []impl.Act {
	at := append(slices.Clone(realms), 0, 0)
	asks := []impl.Act{
		act(impl.AcLogin, p), act(impl.AcCentre, at[0], 0), act(impl.AcReply, p, 1),
		asking(p, 0, s, 0, r), act(impl.AcCentre, at[0], 2), act(impl.AcReply, p, 3),
		asking(p, 1, s, 0, r), act(impl.AcCentre, at[1], 4), act(impl.AcReply, p, 5),
		asking(p, 2, s, 0, r), act(impl.AcCentre, at[2], 6), act(impl.AcReply, p, 7),
	}
	switch len(realms) {
	case 1:
		return append(asks[:6], act(impl.AcApply, p, 1, op), act(impl.AcServe, s, 4))
	case 2:
		return append(asks[:9], act(impl.AcApply, p, 2, op), act(impl.AcServe, s, 6))
	}
	return append(asks, act(impl.AcApply, p, 3, op), act(impl.AcServe, s, 8))
}

func plainFlow(c impl.Config, p, s int, r impl.Rest, op int) []impl.Act {
	if !plainConfigOk(c) || !plainPrincipal(p) || !isThree(s) || !plainRight(r) || op < 0 || op > 7 {
		return nil
	}
	realms := plainRealms(c, p, s)
	if realms == nil {
		return nil
	}
	return plainScript(p, s, r, op, realms...)
}

// checkFlow holds an answer against plain words; asks that the Config is not changed, that the answer is new memory, and for promise 12.
func checkFlow(t *testing.T, what string, c impl.Config, p, s int, r impl.Rest, op int) []impl.Act {
	t.Helper()
	handed, asItWas := withRoom(c)
	acts := impl.Flow(handed, p, s, r, op)
	if want := plainFlow(c, p, s, r, op); !slices.Equal(acts, want) {
		t.Fatalf("%s: Flow(%+v, %d, %d, %+v, %d) = %+v, not %+v", what, c, p, s, r, op, acts, want)
	}
	var answered, given memories
	addList(&answered, "the acts", acts)
	given.addConfig(handed)
	checkApart(t, what, answered, given)
	if !asItWas() {
		t.Fatalf("%s: %+v was changed", what, c)
	}
	if len(acts) > 0 {
		checkGetsThere(t, what, c, p, s, r, op, acts)
	}
	return acts
}

// checkGetsThere plays a Flow: each act is done, but that a service takes only what is permitted.
func checkGetsThere(t *testing.T, what string, c impl.Config, p, s int, r impl.Rest, op int, acts []impl.Act) {
	t.Helper()
	w, codes := impl.Play(c, acts)
	wanted := make([]int, len(acts))
	may := plainPermits(r, s, op, 0)
	if !may {
		wanted[len(acts)-1] = 3
	}
	if !slices.Equal(codes, wanted) || saidOf(w) != allTrue {
		t.Fatalf("%s: Play(%+v, %+v): codes %v, %+v", what, c, acts, codes, saidOf(w))
	}
	if !may {
		if len(w.Accepts) != 0 {
			t.Fatalf("%s: %+v is taken, though %+v does not permit %d, %d", what, w.Accepts, r, s, op)
		}
		return
	}
	if len(w.Accepts) != 1 {
		t.Fatalf("%s: of %+v and %+v comes %+v", what, c, acts, w.Accepts)
	}
	a, realms := w.Accepts[0], plainRealms(c, p, s)
	if a.Client != p || a.Server != s || a.Op != op || !impl.Honest(w, 0) || !plainHonest(w, 0) {
		t.Fatalf("%s: of %d, %d, %d comes %+v", what, p, s, op, a)
	}
	if a.Now != 0 || a.Rest != plainMeet(rest(7, 255, 50), r) || !slices.Equal(a.Path, realms[:len(realms)-1]) || len(a.Via) != 0 {
		t.Fatalf("%s: by %v, with %+v, comes %+v", what, realms, r, a)
	}
}

func checkNoFlow(t *testing.T, what string, c impl.Config, p, s int, r impl.Rest, op int) {
	t.Helper()
	if acts := checkFlow(t, what, c, p, s, r, op); len(acts) != 0 {
		t.Errorf("%s: Flow(%+v, %d, %d, %+v, %d) = %+v", what, c, p, s, r, op, acts)
	}
}

// flowConfig has each user and each service in the realm of its number.
func flowConfig(links ...int) impl.Config {
	return impl.Config{UserRealm: []int{0, 1, 2}, ServiceRealm: []int{0, 1, 2}, Links: pairs(links...), Skew: 5}
}

// Each field of each act, of one way of each length.
func TestFlowWithinARealm(t *testing.T) {
	r := rest(7, 254, 90)
	want := []impl.Act{
		{Kind: 2, A: 1, B: 0, C: 0, D: 0},
		{Kind: 4, A: 1, B: 0, C: 0, D: 0},
		{Kind: 5, A: 1, B: 1, C: 0, D: 0},
		{Kind: 3, A: 1, B: 0, C: 1, D: 0, Rest: r},
		{Kind: 4, A: 1, B: 2, C: 0, D: 0},
		{Kind: 5, A: 1, B: 3, C: 0, D: 0},
		{Kind: 6, A: 1, B: 1, C: 7, D: 0},
		{Kind: 7, A: 1, B: 4, C: 0, D: 0},
	}
	if got := checkFlow(t, "within a realm", flowConfig(), 1, 1, r, 7); !slices.Equal(got, want) {
		t.Errorf("%+v", got)
	}
}

func TestFlowToALinkedRealm(t *testing.T) {
	r := rest(2, 8, 0)
	want := []impl.Act{
		{Kind: 2, A: 2, B: 0, C: 0, D: 0},
		{Kind: 4, A: 2, B: 0, C: 0, D: 0},
		{Kind: 5, A: 2, B: 1, C: 0, D: 0},
		{Kind: 3, A: 2, B: 0, C: 1, D: 0, Rest: r},
		{Kind: 4, A: 2, B: 2, C: 0, D: 0},
		{Kind: 5, A: 2, B: 3, C: 0, D: 0},
		{Kind: 3, A: 2, B: 1, C: 1, D: 0, Rest: r},
		{Kind: 4, A: 1, B: 4, C: 0, D: 0},
		{Kind: 5, A: 2, B: 5, C: 0, D: 0},
		{Kind: 6, A: 2, B: 2, C: 3, D: 0},
		{Kind: 7, A: 1, B: 6, C: 0, D: 0},
	}
	if got := checkFlow(t, "to a linked realm", flowConfig(2, 1), 2, 1, r, 3); !slices.Equal(got, want) {
		t.Errorf("%+v", got)
	}
}

func TestFlowByAThirdRealm(t *testing.T) {
	r := rest(1, 32, 100000)
	want := []impl.Act{
		{Kind: 2, A: 5, B: 0, C: 0, D: 0},
		{Kind: 4, A: 2, B: 0, C: 0, D: 0},
		{Kind: 5, A: 5, B: 1, C: 0, D: 0},
		{Kind: 3, A: 5, B: 0, C: 0, D: 0, Rest: r},
		{Kind: 4, A: 2, B: 2, C: 0, D: 0},
		{Kind: 5, A: 5, B: 3, C: 0, D: 0},
		{Kind: 3, A: 5, B: 1, C: 0, D: 0, Rest: r},
		{Kind: 4, A: 1, B: 4, C: 0, D: 0},
		{Kind: 5, A: 5, B: 5, C: 0, D: 0},
		{Kind: 3, A: 5, B: 2, C: 0, D: 0, Rest: r},
		{Kind: 4, A: 0, B: 6, C: 0, D: 0},
		{Kind: 5, A: 5, B: 7, C: 0, D: 0},
		{Kind: 6, A: 5, B: 3, C: 5, D: 0},
		{Kind: 7, A: 0, B: 8, C: 0, D: 0},
	}
	if got := checkFlow(t, "by a third realm", flowConfig(2, 1, 1, 0), 5, 0, r, 5); !slices.Equal(got, want) {
		t.Errorf("%+v", got)
	}
}

func TestFlowAlongLinks(t *testing.T) {
	all := rest(7, 255, 50)
	for _, x := range []struct {
		what     string
		links    []int
		p, s     int
		howMany  int
		backWays int
	}{
		{"without a Link", nil, 0, 0, 8, 8},
		{"without a Link, to another realm", nil, 0, 2, 0, 0},
		{"linked one way", []int{0, 2}, 0, 2, 11, 0},
		{"linked both ways", []int{0, 2, 2, 0}, 0, 2, 11, 11},
		{"two hops one way", []int{0, 1, 1, 2}, 0, 2, 14, 0},
		{"two hops both ways", []int{0, 1, 1, 2, 2, 1, 1, 0}, 0, 2, 14, 14},
		{"two hops there, and one back", []int{0, 1, 1, 2, 2, 0}, 0, 2, 14, 11},
		{"the fewest Links", []int{0, 1, 1, 2, 0, 2}, 0, 2, 11, 0},
		{"the fewest Links, in another order", []int{0, 2, 1, 2, 0, 1}, 0, 2, 11, 0},
		{"the first Link alone", []int{0, 1}, 0, 2, 0, 0},
		{"the second Link alone", []int{1, 2}, 0, 2, 0, 0},
		{"the first Link turned round", []int{1, 0, 1, 2}, 0, 2, 0, 0},
		{"the second Link turned round", []int{0, 1, 2, 1}, 0, 2, 0, 0},
		{"all but what leads away", []int{1, 0, 1, 2, 2, 0, 2, 1}, 0, 2, 0, 11},
		{"all but what leads there", []int{0, 1, 1, 0, 2, 0, 2, 1}, 0, 2, 0, 11},
		{"by a realm with a greater number", []int{0, 2, 2, 1}, 0, 1, 14, 0},
		{"by a realm with a lesser number", []int{1, 0, 0, 2}, 1, 2, 14, 0},
	} {
		c := flowConfig(x.links...)
		if acts := checkFlow(t, x.what, c, x.p, x.s, all, 4); len(acts) != x.howMany {
			t.Errorf("%s: there are %d acts, not %d", x.what, len(acts), x.howMany)
		}
		if acts := checkFlow(t, x.what, c, x.s, x.p, all, 4); len(acts) != x.backWays {
			t.Errorf("%s, and back: there are %d acts, not %d", x.what, len(acts), x.backWays)
		}
	}
}

// Each user and each service goes to each service, its own way to itself with it.
func TestFlowOfEachPrincipalAndService(t *testing.T) {
	all := rest(7, 255, 50)
	for _, c := range []impl.Config{flowConfig(0, 1, 1, 2), flowConfig(0, 1, 1, 2, 2, 0), truthConfig(), centreConfig(), someConfig()} {
		for p := range 6 {
			for s := range 3 {
				for op := range 8 {
					checkFlow(t, "all that there are", c, p, s, all, op)
					checkFlow(t, "all that there are, with little", c, p, s, rest(1<<s, 1<<op, 0), op)
				}
			}
		}
	}
	for s := range 3 {
		if acts := checkFlow(t, "to itself", flowConfig(), 3+s, s, all, 0); len(acts) != 8 {
			t.Errorf("service %d to itself: %+v", s, acts)
		}
	}
	// Users and services of one number need not be of one realm.
	c := impl.Config{UserRealm: []int{2, 2, 0}, ServiceRealm: []int{1, 0, 0}, Links: pairs(2, 1)}
	for p, lengths := range [][]int{{11, 0, 0}, {11, 0, 0}, {0, 8, 8}, {8, 0, 0}, {0, 8, 8}, {0, 8, 8}} {
		for s, length := range lengths {
			if acts := checkFlow(t, "of unlike realms", c, p, s, all, 1); len(acts) != length {
				t.Errorf("%d to %d: %+v", p, s, acts)
			}
		}
	}
}

func TestFlowOfWrongNumbers(t *testing.T) {
	c, all := flowConfig(0, 1, 1, 2, 2, 0), rest(7, 255, 50)
	for _, n := range numbersAround {
		for _, other := range []int{0, 2} {
			// All principals, services and ops have a way here, so what there is none of is what is wrong.
			if got := checkFlow(t, "a principal", c, n, other, all, other); (len(got) > 0) != plainPrincipal(n) {
				t.Errorf("of principal %d: %+v", n, got)
			}
			if got := checkFlow(t, "a service", c, other, n, all, other); (len(got) > 0) != isThree(n) {
				t.Errorf("to service %d: %+v", n, got)
			}
			if got := checkFlow(t, "an op", c, other, other, all, n); (len(got) > 0) != (n >= 0 && n <= 7) {
				t.Errorf("for op %d: %+v", n, got)
			}
		}
	}
	checkNoFlow(t, "p -1", c, -1, 0, all, 0)
	checkNoFlow(t, "p 6", c, 6, 0, all, 0)
	checkNoFlow(t, "s -1", c, 0, -1, all, 0)
	checkNoFlow(t, "s -3, which would be user 0", c, 0, -3, all, 0)
	checkNoFlow(t, "s 3", c, 0, 3, all, 0)
	checkNoFlow(t, "op -1", c, 0, 0, all, -1)
	checkNoFlow(t, "op 8", c, 0, 0, all, 8)
	checkNoFlow(t, "all of them", c, -1, 3, rest(8, 256, -1), 8)
}

func TestFlowOfWrongRestsAndConfigs(t *testing.T) {
	c, all := flowConfig(0, 1, 1, 2, 2, 0), rest(7, 255, 50)
	for _, r := range wrongRests() {
		for p := range 6 {
			checkNoFlow(t, "a Rest that is not right", c, p, 2, r, 0)
		}
	}
	for _, wrong := range wrongConfigs() {
		for p := range 6 {
			for s := range 3 {
				checkNoFlow(t, "a Config that is not right", wrong, p, s, all, 0)
			}
		}
	}
	wrong := flowConfig(0, 1)
	wrong.Skew = 21
	checkNoFlow(t, "both", wrong, 0, 0, rest(8, 0, 0), 0)
}

// What a Rest does not permit is asked for, too, and not taken.
func TestFlowOfEachRest(t *testing.T) {
	for _, r := range someRests() {
		for s := range 3 {
			for _, op := range []int{0, 1, 6, 7} {
				if got := checkFlow(t, "a right Rest", flowConfig(), s, s, r, op); len(got) != 8 {
					t.Errorf("%+v: %+v", r, got)
				}
			}
			checkFlow(t, "a right Rest, by two hops", flowConfig(0, 1, 1, 2), 0, s, r, 7)
		}
	}
}

// Promise 12 with each choice of Links, from each realm to each realm, of each user, and of each service.
func TestFlowOfEachChoiceOfLinks(t *testing.T) {
	count := map[int]int{}
	for bits := range 1 << len(unlikePairs) {
		for turn := range 9 {
			c := impl.Config{UserRealm: turned(turn % 3), ServiceRealm: turned(turn / 3), Links: someOf(unlikePairs, bits), Skew: bits % 21}
			for p := range 6 {
				for s := range 3 {
					op := (p + s + bits + turn) % 8
					acts := checkFlow(t, "permitted", c, p, s, rest(1<<s, 1<<op, bits), op)
					checkFlow(t, "not for this service or op", c, p, s, []impl.Rest{rest(7-1<<s, 255, 50), rest(7, 255-1<<op, 50)}[(p+turn)%2], op)
					count[len(acts)]++
				}
			}
		}
	}
	for _, length := range []int{0, 8, 11, 14} {
		if count[length] < 100 {
			t.Errorf("too few are of length %d: %v", length, count)
		}
	}
}

// turned are the three realms, each a few further.
func turned(by int) []int { return []int{by, (1 + by) % 3, (2 + by) % 3} }

func TestAnyFlow(t *testing.T) {
	r := rand.New(rand.NewSource(120))
	count := map[string]int{}
	for i := range 6000 {
		wrong := []int{0, 0, 8}[i%3]
		c, may := anyCentreConfig(r, wrong), anyRest(r, wrong)
		if i%2 == 0 {
			// Else few ways have two hops.
			c.Links = pairs(0, 2, 2, 1, 1, 0)[:r.Intn(4)]
		}
		p, s, op := numberNear(r, 0, 5, wrong), numberNear(r, 0, 2, wrong), numberNear(r, 0, 7, wrong)
		acts := checkFlow(t, "any", c, p, s, may, op)
		switch {
		case len(acts) == 0:
			count["nothing"]++
		case plainPermits(may, s, op, 0):
			count[impl.Dec(len(acts))+" permitted"]++
		default:
			count[impl.Dec(len(acts))+" not permitted"]++
		}
	}
	for _, what := range []string{"nothing", "8 permitted", "8 not permitted", "11 permitted", "11 not permitted", "14 permitted", "14 not permitted"} {
		if count[what] < 50 {
			t.Errorf("too few are %s: %v", what, count)
		}
	}
}

func TestFlowKeepsNothing(t *testing.T) {
	c, all := flowConfig(0, 1, 1, 2), rest(7, 255, 50)
	first := checkFlow(t, "first", c, 0, 2, all, 1)
	before := slices.Clone(first)
	// Who writes into an answer changes no later one.
	overwritten(first, act(-7, -7))
	checkFlow(t, "between", c, 1, 1, rest(2, 2, 2), 2)
	checkNoFlow(t, "between", c, 2, 0, all, 1)
	if again := checkFlow(t, "again", c, 0, 2, all, 1); !slices.Equal(again, before) {
		t.Errorf("%+v, then %+v", before, again)
	}
}
