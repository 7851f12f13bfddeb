package tests

import (
	"math"
	"math/bits"
	"math/rand"
	"reflect"
	"slices"
	"strings"
	"testing"
	"unsafe"

	"loop.example/g00769/impl"
)

// A centre and what it is asked, by plain words: what the tests hold the program's answers against.

func plainKeyOf(p int) int { return []int{1, 2, 3, 11, 12, 13}[p] }

func plainRealmOf(c impl.Config, p int) int {
	return append(slices.Clone(c.UserRealm), c.ServiceRealm...)[p]
}

// plainMeet is what is in both, bit by bit.
func plainMeet(a, b impl.Rest) impl.Rest {
	m := rest(0, 0, a.End)
	if b.End < a.End {
		m.End = b.End
	}
	for bit := 1; bit < 256; bit += bit {
		if a.Servers&bit != 0 && b.Servers&bit != 0 {
			m.Servers += bit
		}
		if a.Ops&bit != 0 && b.Ops&bit != 0 {
			m.Ops += bit
		}
	}
	return m
}

func plainFar(a, b, skew int) bool { return a > b+skew || b > a+skew }

// plainGiven is the Reply with a new ticket: the keys are those of who it is for, and of who asked.
func plainGiven(x impl.Ticket, forKey, byKey, nonce int, e impl.Event) impl.Reply {
	e.Client, e.Service, e.Key, e.Rest = x.Client, x.Service, x.Key, x.Rest
	g := impl.Grant{Key: x.Key, Service: x.Service, Nonce: nonce, Rest: x.Rest}
	return impl.Reply{Term: list(impl.Nums([]int{3, nonce}), rawTicket(x, forKey), rawGrant(g, byKey)), Event: e}
}

// plainCentre is what the document says of Centre, word by word.
func plainCentre(c impl.Config, realm, now, fresh int, req string) impl.Reply {
	if !plainConfigOk(c) || !isThree(realm) || now < 0 || now > 100000 || fresh < 101 || fresh > 1000000 {
		return impl.Reply{Code: 1}
	}
	l, ok := plainTermOf(req)
	if !ok || l.kind != 'l' || len(l.parts) == 0 {
		return impl.Reply{Code: 1}
	}
	head := plainNums(l.parts[0])
	if len(head) != 3 || head[2] > 1000000 {
		return impl.Reply{Code: 1}
	}
	if head[0] == 1 && len(l.parts) == 2 {
		return plainLogin(c, realm, now, fresh, head[1], head[2], l.parts[1])
	}
	if head[0] == 2 && len(l.parts) == 5 {
		return plainAsk(c, realm, now, fresh, head[1], head[2], l.parts[1:])
	}
	return impl.Reply{Code: 1}
}

func plainLogin(c impl.Config, realm, now, fresh, p, nonce int, part string) impl.Reply {
	if !plainPrincipal(p) || plainRealmOf(c, p) != realm {
		return impl.Reply{Code: 1}
	}
	inside := plainNums(plainInside(part, plainKeyOf(p)))
	if len(inside) != 2 || inside[0] != 8 {
		return impl.Reply{Code: 2}
	}
	if plainFar(inside[1], now, c.Skew) {
		return impl.Reply{Code: 3}
	}
	if now+50 > 100000 {
		return impl.Reply{Code: 4}
	}
	x := impl.Ticket{Client: p, Service: 10 + realm, Key: fresh, Rest: rest(7, 255, now+50)}
	return plainGiven(x, 21+realm, plainKeyOf(p), nonce, impl.Event{Kind: 1, Realm: realm, By: p})
}

// plainShown is a ticket for the centre of the realm, with q at the end of its Path where a realm q handed it on.
func plainShown(c impl.Config, realm int, s string) (impl.Ticket, bool) {
	x, ok := plainReadTicket(s, 21+realm)
	for q := range 3 {
		y, read := plainReadTicket(s, 31+3*q+realm)
		if read && slices.Contains(c.Links, impl.Pair{A: q, B: realm}) {
			y.Path = append(y.Path, q)
			x, ok = y, true
		}
	}
	return x, ok && x.Service == 10+realm
}

func plainAsk(c impl.Config, realm, now, fresh, target, nonce int, parts []string) impl.Reply {
	r := plainNums(parts[2])
	x, ok := plainShown(c, realm, parts[0])
	if !isThree(target) || len(r) != 3 || !plainRight(rest(r[0], r[1], r[2])) || !ok {
		return impl.Reply{Code: 1}
	}
	a, ok := plainReadAuth(parts[1], x.Key)
	if !ok || a.Client != x.Client {
		return impl.Reply{Code: 2}
	}
	if plainFar(a.Time, now, c.Skew) {
		return impl.Reply{Code: 3}
	}
	if now > x.Rest.End {
		return impl.Reply{Code: 4}
	}
	if len(x.Path) > 6 {
		return impl.Reply{Code: 5}
	}
	wanted := rest(r[0], r[1], r[2])
	if parts[3] != "a\x00" {
		return plainDelegate(c, realm, now, fresh, target, nonce, x, wanted, parts[3])
	}
	y := impl.Ticket{Client: x.Client, Service: target, Key: fresh, Rest: plainMeet(x.Rest, wanted), Path: x.Path, Via: x.Via}
	e := impl.Event{Kind: 2, Realm: realm, By: x.Client, Parent: x.Key}
	if plainRealmOf(c, 3+target) == realm {
		return plainGiven(y, 11+target, x.Key, nonce, e)
	}
	hop := plainHop(c, realm, plainRealmOf(c, 3+target))
	if hop == -1 {
		return impl.Reply{Code: 5}
	}
	y.Service, e.Kind = 10+hop, 3
	return plainGiven(y, 31+3*realm+hop, x.Key, nonce, e)
}

func plainDelegate(c impl.Config, realm, now, fresh, target, nonce int, x impl.Ticket, wanted impl.Rest, evid string) impl.Reply {
	if x.Client < 3 || plainRealmOf(c, x.Client) != realm || plainRealmOf(c, 3+target) != realm {
		return impl.Reply{Code: 6}
	}
	s := x.Client - 3
	v, ok := plainReadTicket(evid, 11+s)
	if !ok || v.Service != s {
		return impl.Reply{Code: 1}
	}
	if now > v.Rest.End {
		return impl.Reply{Code: 4}
	}
	if !slices.Contains(c.Proxy, impl.Pair{A: s, B: target}) || len(v.Via) >= 4 {
		return impl.Reply{Code: 6}
	}
	y := impl.Ticket{Client: v.Client, Service: target, Key: fresh, Rest: plainMeet(v.Rest, wanted), Path: v.Path, Via: append(slices.Clone(v.Via), s)}
	return plainGiven(y, 11+target, x.Key, nonce, impl.Event{Kind: 4, Realm: realm, By: x.Client, Parent: x.Key, Evid: v.Key})
}

// withRoom is the Config with spare room behind each list, and a question whether that and the lists are as they were.
func withRoom(c impl.Config) (impl.Config, func() bool) {
	users, services := append(slices.Clone(c.UserRealm), -7, -8), append(slices.Clone(c.ServiceRealm), -9, -10)
	links, proxy := append(slices.Clone(c.Links), pairs(-1, -2, -3, -4)...), append(slices.Clone(c.Proxy), pairs(-5, -6, -7, -8)...)
	before := []any{slices.Clone(users), slices.Clone(services), slices.Clone(links), slices.Clone(proxy)}
	handed := impl.Config{
		UserRealm: users[:len(c.UserRealm)], ServiceRealm: services[:len(c.ServiceRealm)],
		Links: links[:len(c.Links)], Proxy: proxy[:len(c.Proxy)], Skew: c.Skew,
	}
	return handed, func() bool { return reflect.DeepEqual(before, []any{users, services, links, proxy}) }
}

// sharesMemory says whether two texts have a byte in common, not just one that is alike.
func sharesMemory(a, b string) bool {
	if a == "" || b == "" {
		return false
	}
	at, other := uintptr(unsafe.Pointer(unsafe.StringData(a))), uintptr(unsafe.Pointer(unsafe.StringData(b)))
	return at < other+uintptr(len(b)) && other < at+uintptr(len(a))
}

// checkCentre holds an answer against plain words; asks that nothing is written into the Config, that the Term shares no memory with req, and that a refusal gives nothing.
func checkCentre(t *testing.T, what string, c impl.Config, realm, now, fresh int, req string) impl.Reply {
	t.Helper()
	handed, asItWas := withRoom(c)
	got := impl.Centre(handed, realm, now, fresh, req)
	if want := plainCentre(c, realm, now, fresh, req); got != want {
		t.Fatalf("%s: Centre(%+v, %d, %d, %d, %q) = %+v, not %+v", what, c, realm, now, fresh, req, got, want)
	}
	if !asItWas() {
		t.Fatalf("%s: %+v was changed", what, c)
	}
	if sharesMemory(got.Term, req) {
		t.Fatalf("%s: %q shares memory with %q", what, got.Term, req)
	}
	if got.Code != impl.CeOk && got != (impl.Reply{Code: got.Code}) {
		t.Fatalf("%s: a refusal gives something: %+v", what, got)
	}
	return got
}

// loggingIn is a login and where it is brought; its parts can be changed one by one.
type loggingIn struct {
	c                 impl.Config
	realm, now, fresh int
	head              []int
	sealKey           int
	inside            []int
}

// Realm 0 hands on to 1, and 1 to 2. Users 0 to 2 are in realms 0 to 2, services 0 and 1 in realm 0, 2 in realm 2.
func centreConfig() impl.Config {
	return impl.Config{UserRealm: []int{0, 1, 2}, ServiceRealm: []int{0, 0, 2}, Links: pairs(0, 1, 1, 2), Proxy: pairs(0, 1), Skew: 5}
}

func someLogin() loggingIn {
	return loggingIn{c: centreConfig(), realm: 0, now: 40, fresh: 102, head: []int{1, 0, 777}, sealKey: 1, inside: []int{8, 38}}
}

func (l loggingIn) req() string {
	return list(impl.Nums(l.head), impl.Seal(l.sealKey, impl.Nums(l.inside)))
}

func (l loggingIn) check(t *testing.T, what string, code int) impl.Reply {
	t.Helper()
	got := checkCentre(t, what, l.c, l.realm, l.now, l.fresh, l.req())
	if got.Code != code {
		t.Errorf("%s: the code is %d, not %d", what, got.Code, code)
	}
	return got
}

// askingFor is an ask and where it is brought; its parts can be changed one by one. Without an evid it asks in nobody else's name.
type askingFor struct {
	c                 impl.Config
	realm, now, fresh int
	head              []int
	shown             impl.Ticket
	shownKey          int
	a                 impl.Auth
	authKey           int
	rest              impl.Rest
	evid              *impl.Ticket
	evidKey           int
}

// User 0 asks for service 1 of its own realm.
func someAsking() askingFor {
	return askingFor{
		c: centreConfig(), realm: 0, now: 40, fresh: 104, head: []int{2, 1, 778},
		shown: impl.Ticket{Client: 0, Service: 10, Key: 102, Rest: rest(3, 14, 60)}, shownKey: 21,
		a: auth(0, 38, 9), authKey: 102, rest: rest(6, 7, 70),
	}
}

// Service 0 asks for service 1, in the name of user 1, whose ticket it was shown.
func someDelegation() askingFor {
	x := someAsking()
	x.shown.Client, x.a.Client = 3, 3
	x.evid = &impl.Ticket{Client: 1, Service: 0, Key: 103, Rest: rest(6, 13, 65), Path: []int{1, 2}, Via: []int{2}}
	x.evidKey = 11
	return x
}

func (x askingFor) parts() []string {
	evid := "a\x00"
	if x.evid != nil {
		evid = rawTicket(*x.evid, x.evidKey)
	}
	return []string{impl.Nums(x.head), rawTicket(x.shown, x.shownKey), rawAuth(x.a, x.authKey), impl.Nums([]int{x.rest.Servers, x.rest.Ops, x.rest.End}), evid}
}

func (x askingFor) req() string { return list(x.parts()...) }

func (x askingFor) check(t *testing.T, what string, code int) impl.Reply {
	t.Helper()
	if x.req() == "" {
		t.Fatalf("%s: what is asked is no term", what)
	}
	return x.checkReq(t, what, x.req(), code)
}

func (x askingFor) checkReq(t *testing.T, what, req string, code int) impl.Reply {
	t.Helper()
	got := checkCentre(t, what, x.c, x.realm, x.now, x.fresh, req)
	if got.Code != code {
		t.Errorf("%s: the code is %d, not %d", what, got.Code, code)
	}
	return got
}

// keysAround are all that stand from the beginning, some that do not, and some fresh ones.
func keysAround() []int {
	return append(numbersFrom(-1, 45), 100, 101, 102, 103, 104, 105, 106, 777, 778, 1000000, 1000001)
}

// checkSealed asks that the ticket and the Grant of a Reply open with these keys and with no other one, and hands out both.
func checkSealed(t *testing.T, what string, got impl.Reply, forKey, byKey int) (impl.Ticket, impl.Grant) {
	t.Helper()
	parts, ok := impl.Parts(got.Term)
	if !ok || len(parts) != 3 {
		t.Fatalf("%s: %q has not three parts", what, got.Term)
	}
	for _, k := range keysAround() {
		if _, ok := impl.ReadTicket(parts[1], k); ok != (k == forKey) {
			t.Errorf("%s: the ticket, with key %d: %v", what, k, ok)
		}
		if _, ok := impl.ReadGrant(parts[2], k); ok != (k == byKey) {
			t.Errorf("%s: the Grant, with key %d: %v", what, k, ok)
		}
	}
	x, _ := impl.ReadTicket(parts[1], forKey)
	g, _ := impl.ReadGrant(parts[2], byKey)
	head, _ := impl.ReadNums(parts[0])
	if !slices.Equal(head, []int{3, g.Nonce}) || g.Key != x.Key || g.Service != x.Service || g.Rest != x.Rest {
		t.Errorf("%s: %v, and %+v for %+v", what, head, g, x)
	}
	e := got.Event
	if e.Client != x.Client || e.Service != x.Service || e.Key != x.Key || e.Rest != x.Rest {
		t.Errorf("%s: %+v of %+v", what, e, x)
	}
	return x, g
}

func TestCentreConstants(t *testing.T) {
	if !slices.Equal([]int{impl.EvLogin, impl.EvIssue, impl.EvRefer, impl.EvDelegate}, []int{1, 2, 3, 4}) {
		t.Error("a kind of Event is not as the document names it")
	}
	if !slices.Equal([]int{impl.CeOk, impl.CeBad, impl.CePre, impl.CeSkew, impl.CeEnd, impl.CeNoPath, impl.CePolicy}, []int{0, 1, 2, 3, 4, 5, 6}) {
		t.Error("a code is not as the document names it")
	}
}

func TestLoginReq(t *testing.T) {
	numbers := []int{math.MinInt, -1, 0, 1, 127, 128, 100000, 100001, 999999, 1000000, 1000001, impl.MaxVar, impl.MaxVar + 1, math.MaxInt}
	inRange := func(n int) bool { return n >= 0 && n <= 1000000 }
	for _, p := range numbersAround {
		for _, now := range numbers {
			for _, nonce := range numbers {
				want := ""
				if plainPrincipal(p) && inRange(now) && inRange(nonce) {
					want = "l\x02" + impl.Nums([]int{1, p, nonce}) + "s" + impl.Var(plainKeyOf(p)) + impl.Nums([]int{8, now})
				}
				if got := impl.LoginReq(p, now, nonce); got != want {
					t.Fatalf("LoginReq(%d, %d, %d) = %q, not %q", p, now, nonce, got, want)
				}
			}
		}
	}
	for p, want := range map[int]string{
		0: "l\x02l\x03a\x01\x01a\x01\x00a\x01\x65s\x01l\x02a\x01\x08a\x01\x03",
		2: "l\x02l\x03a\x01\x01a\x01\x02a\x01\x65s\x03l\x02a\x01\x08a\x01\x03",
		3: "l\x02l\x03a\x01\x01a\x01\x03a\x01\x65s\x0bl\x02a\x01\x08a\x01\x03",
		5: "l\x02l\x03a\x01\x01a\x01\x05a\x01\x65s\x0dl\x02a\x01\x08a\x01\x03",
	} {
		if got := impl.LoginReq(p, 3, 101); got != want {
			t.Errorf("LoginReq(%d, 3, 101) = %q, not %q", p, got, want)
		}
	}
}

func TestAskReq(t *testing.T) {
	a, r := auth(4, 38, 9), rest(3, 14, 60)
	shownAuth, shownRest := rawAuth(a, 102), impl.Nums([]int{3, 14, 60})
	for _, ticket := range append(someTerms(), rawTicket(someTicket(), 21)) {
		for _, evid := range append(someTerms(), "", "a\x00", rawTicket(someTicket(), 11)) {
			behind := evid
			if evid == "" {
				behind = "a\x00"
			}
			want := "l\x05" + impl.Nums([]int{2, 1, 778}) + ticket + shownAuth + shownRest + behind
			if !impl.TermOk(want) {
				want = ""
			}
			got := impl.AskReq(ticket, 102, a, 1, r, 778, evid)
			if got != want {
				t.Fatalf("AskReq(%q, .., %q) = %q, not %q", ticket, evid, got, want)
			}
			if sharesMemory(got, ticket) || sharesMemory(got, evid) {
				t.Fatalf("AskReq(%q, .., %q) shares memory with them", ticket, evid)
			}
		}
	}
	if got := impl.AskReq("k\x05", 5, auth(1, 2, 3), 2, rest(1, 9, 30), 103, ""); got != "l\x05"+"l\x03a\x01\x02a\x01\x02a\x01\x67"+"k\x05"+"s\x05l\x04a\x01\x07a\x01\x01a\x01\x02a\x01\x03"+"l\x03a\x01\x01a\x01\x09a\x01\x1e"+"a\x00" {
		t.Errorf("%q", got)
	}
}

func TestAskReqOfWhatIsNone(t *testing.T) {
	ticket, evid, a, r := rawTicket(someTicket(), 21), rawTicket(someTicket(), 11), auth(4, 38, 9), rest(3, 14, 60)
	check := func(what, got string, some bool) {
		t.Helper()
		if (got != "") != some || some && !impl.TermOk(got) {
			t.Errorf("%s: %q", what, got)
		}
	}
	check("all is right", impl.AskReq(ticket, 102, a, 1, r, 778, evid), true)
	check("no ticket", impl.AskReq("", 102, a, 1, r, 778, evid), false)
	for _, none := range []string{"x", "a", "l\x02a\x00", "a\x00a\x00", ticket + "a\x00", ticket[:len(ticket)-1], "k\x00", "s\x00a\x00", strings.Repeat("a", 901)} {
		check("a ticket that is no term", impl.AskReq(none, 102, a, 1, r, 778, evid), false)
		check("an evid that is no term", impl.AskReq(ticket, 102, a, 1, r, 778, none), false)
	}
	// Two that are terms only when they are put together.
	check("halves", impl.AskReq("l\x01", 102, a, 1, r, 778, evid), false)
	for _, wrong := range wrongAuths() {
		check("an Auth that is not right", impl.AskReq(ticket, 102, wrong, 1, r, 778, evid), false)
	}
	for _, wrong := range wrongRests() {
		check("a Rest that is not right", impl.AskReq(ticket, 102, a, 1, wrong, 778, evid), false)
	}
	for k, some := range map[int]bool{math.MinInt: false, -1: false, 0: false, 1: true, 1000000: true, 1000001: false, math.MaxInt: false} {
		check("a key", impl.AskReq(ticket, k, a, 1, r, 778, evid), some)
	}
	for n, some := range map[int]bool{math.MinInt: false, -1: false, 0: true, 2: true, 3: true, 1000000: true, 1000001: true, impl.MaxVar: true, impl.MaxVar + 1: false, math.MaxInt: false} {
		check("a target", impl.AskReq(ticket, 102, a, n, r, 778, evid), some)
		check("a nonce", impl.AskReq(ticket, 102, a, 1, r, n, evid), some)
	}
}

func TestAskReqThatIsTooLongOrTooDeep(t *testing.T) {
	a, r := auth(4, 38, 9), rest(3, 14, 60)
	around := len(impl.AskReq("a\x00", 102, a, 1, r, 778, "")) - 2
	for more := -3; more <= 3; more++ {
		// An atom of a list of 900 bytes gives way to what stands around it.
		filled := listOfBytes(938 - around + more)
		filled = strings.Replace(filled, "l\x0ca\x24"+strings.Repeat("x", 36), "l\x0b", 1)
		if !impl.TermOk(filled) {
			t.Fatalf("%d bytes are no term", len(filled))
		}
		if got := impl.AskReq(filled, 102, a, 1, r, 778, ""); (got != "") != (more <= 0) || more == 0 && len(got) != 900 {
			t.Errorf("%d more in the ticket: %d bytes", more, len(got))
		}
		if got := impl.AskReq("a\x00", 102, a, 1, r, 778, filled); (got != "") != (more <= 0) {
			t.Errorf("%d more in evid: %d bytes", more, len(got))
		}
	}
	for depth := 1; depth <= 9; depth++ {
		for _, deep := range []string{sealedTimes("a\x00", depth-1), listedTimes("k\x01", depth-1)} {
			if got := impl.AskReq(deep, 102, a, 1, r, 778, ""); (got != "") != (depth <= 7) {
				t.Errorf("a ticket of depth %d: %q", depth, got)
			}
			if got := impl.AskReq("a\x00", 102, a, 1, r, 778, deep); (got != "") != (depth <= 7) {
				t.Errorf("evid of depth %d: %q", depth, got)
			}
		}
	}
}

// wrongConfigs have one thing each that is not right.
func wrongConfigs() []impl.Config {
	var l []impl.Config
	for _, spoil := range []func(c *impl.Config){
		func(c *impl.Config) { *c = impl.Config{} },
		func(c *impl.Config) { c.UserRealm = c.UserRealm[:2] },
		func(c *impl.Config) { c.UserRealm = []int{0, 1, 3} },
		func(c *impl.Config) { c.ServiceRealm = append(c.ServiceRealm, 0) },
		func(c *impl.Config) { c.ServiceRealm = []int{0, 0, -1} },
		func(c *impl.Config) { c.Links = pairs(0, 1, 0, 1) },
		func(c *impl.Config) { c.Links = pairs(0, 0) },
		func(c *impl.Config) { c.Proxy = pairs(0, 3) },
		func(c *impl.Config) { c.Proxy = pairs(0, 1, 0, 0, 0, 2, 1, 0, 1, 1, 1, 2, 2, 0) },
		func(c *impl.Config) { c.Skew = -1 },
		func(c *impl.Config) { c.Skew = 21 },
	} {
		c := centreConfig()
		spoil(&c)
		l = append(l, c)
	}
	return l
}

func TestCentreOfWrongArguments(t *testing.T) {
	for _, x := range []askingFor{someAsking(), someDelegation()} {
		l := someLogin()
		for _, wrong := range wrongConfigs() {
			x.c, l.c = wrong, wrong
			x.check(t, "a Config that is not right", impl.CeBad)
			l.check(t, "a Config that is not right", impl.CeBad)
		}
		x.c, l.c = centreConfig(), centreConfig()
		for _, realm := range numbersAround {
			if !isThree(realm) {
				x.realm, l.realm = realm, realm
				x.check(t, "no such realm", impl.CeBad)
				l.check(t, "no such realm", impl.CeBad)
			}
		}
		for _, p := range []int{6, 7, impl.MaxVar} {
			l.head[1], l.realm = p, -1
			l.check(t, "who is nowhere, where nothing is", impl.CeBad)
		}
		x.realm, l.realm, l.head[1] = 0, 0, 0
		for fresh, code := range map[int]int{math.MinInt: 1, -1: 1, 0: 1, 1: 1, 99: 1, 100: 1, 101: 0, 102: 0, 999999: 0, 1000000: 0, 1000001: 1, math.MaxInt: 1} {
			x.fresh, l.fresh = fresh, fresh
			x.check(t, "fresh", code)
			l.check(t, "fresh", code)
		}
	}
}

func TestCentreAtEachTime(t *testing.T) {
	for _, now := range []int{math.MinInt, -100, -1, 0, 1, 99949, 99950, 99951, 99999, 100000, 100001, 100002, math.MaxInt} {
		code := impl.CeOk
		if now < 0 || now > 100000 {
			code = impl.CeBad
		}
		for _, x := range []askingFor{someAsking(), someDelegation()} {
			x.now, x.a.Time, x.shown.Rest.End, x.rest.End = now, max(0, min(100000, now)), 100000, 100000
			if x.evid != nil {
				x.evid.Rest.End = 100000
			}
			x.check(t, "an ask", code)
		}
		l := someLogin()
		l.now, l.inside = now, []int{8, max(0, min(100000, now))}
		if code == impl.CeOk && now > 99950 {
			code = impl.CeEnd
		}
		got := l.check(t, "a login", code)
		if code == impl.CeOk && got.Event.Rest != rest(7, 255, now+50) {
			t.Errorf("a login at %d: %+v", now, got.Event)
		}
	}
}

func TestRequestsThatAreNone(t *testing.T) {
	check := func(what string, req string) {
		t.Helper()
		someAsking().checkReq(t, what, req, impl.CeBad)
	}
	l, x := someLogin(), someAsking()
	login, ask := []string{impl.Nums(l.head), impl.Seal(1, impl.Nums(l.inside))}, x.parts()
	for _, s := range append(someTerms(), "", "x", "l", "l\x01", "l\x00", "l\x01l\x00", "a\x00", "k\x05", "s\x05l\x00", strings.Repeat("l", 901)) {
		check("no request", s)
		check("a first part that is not Nums", list(s, login[1]))
		check("a first part that is not Nums", list(append([]string{s}, ask[1:]...)...))
	}
	check("no parts", list())
	check("sealed", impl.Seal(21, x.req()))
	check("a list in a list", list(x.req()))
	for _, whole := range []string{l.req(), x.req()} {
		check("cut", whole[:len(whole)-1])
		check("more behind", whole+"a\x00")
		check("more ahead", "a\x00"+whole)
	}
	for _, parts := range [][]string{login, ask} {
		head := plainNums(parts[0])
		for count := range 6 {
			numbers := append(slices.Clone(head), 5, 6, 7)[:count]
			if count != 3 {
				check("so many numbers", list(append([]string{impl.Nums(numbers)}, parts[1:]...)...))
			}
		}
		for place := range head {
			cells := []string{impl.Num(head[0]), impl.Num(head[1]), impl.Num(head[2])}
			for _, s := range []string{"a\x00", "k\x05", "l\x00", "a\x02\x80\x00", "a\x02\x05\x05"} {
				cells[place] = s
				check("a number that is none", list(append([]string{list(cells...)}, parts[1:]...)...))
			}
		}
		behind := append(slices.Clone(parts[1:]), slices.Repeat([]string{"a\x00"}, 11)...)
		for kind := range 13 {
			for count := range 12 {
				if kind == 1 && count == 1 || kind == 2 && count == 4 {
					continue
				}
				all := append([]string{impl.Nums([]int{kind, head[1], head[2]})}, behind[:count]...)
				check("so many parts of that kind", list(all...))
			}
		}
		turned := slices.Clone(parts)
		slices.Reverse(turned)
		check("turned round", list(turned...))
	}
	check("a login as an ask", list(append([]string{impl.Nums([]int{1, 0, 777})}, ask[1:]...)...))
	check("an ask as a login", list(impl.Nums([]int{2, 0, 777}), login[1]))
}

func TestNonces(t *testing.T) {
	for nonce, code := range map[int]int{0: 0, 1: 0, 101: 0, 100001: 0, 999999: 0, 1000000: 0, 1000001: 1, impl.MaxVar: 1} {
		l := someLogin()
		l.head[2] = nonce
		got := []impl.Reply{l.check(t, "a login", code)}
		byKeys := []int{1, 102, 102}
		forKeys := []int{21, 12, 12}
		for _, x := range []askingFor{someAsking(), someDelegation()} {
			x.head[2] = nonce
			got = append(got, x.check(t, "an ask", code))
		}
		for i := range got {
			if code != impl.CeOk {
				continue
			}
			if _, g := checkSealed(t, "nonce", got[i], forKeys[i], byKeys[i]); g.Nonce != nonce {
				t.Errorf("the nonce %d is answered as %d", nonce, g.Nonce)
			}
		}
	}
}

func TestLoginOfEachPrincipalAtEachCentre(t *testing.T) {
	for p := range 8 {
		for realm := range 3 {
			for sealed := range 8 {
				l := someLogin()
				l.realm, l.head[1] = realm, p
				l.c.ServiceRealm = []int{2, 1, 0}
				l.sealKey = append(slices.Clone([]int{1, 2, 3, 11, 12, 13}), 21+realm, 102)[sealed]
				code := impl.CeOk
				switch {
				case p > 5 || plainRealmOf(l.c, p) != realm:
					code = impl.CeBad
				case p != sealed:
					code = impl.CePre
				}
				got := l.check(t, "a login", code)
				if code != impl.CeOk {
					continue
				}
				full := rest(7, 255, 90)
				if got.Event != (impl.Event{Kind: impl.EvLogin, Realm: realm, By: p, Client: p, Service: 10 + realm, Key: 102, Rest: full}) {
					t.Errorf("%d in %d: %+v", p, realm, got.Event)
				}
				x, g := checkSealed(t, "a login", got, 21+realm, plainKeyOf(p))
				if !sameTicket(x, impl.Ticket{Client: p, Service: 10 + realm, Key: 102, Rest: full}) || g.Nonce != 777 {
					t.Errorf("%d in %d: %+v, %+v", p, realm, x, g)
				}
			}
		}
	}
	for _, p := range []int{6, 7, 10, 11, 100, 1000000, impl.MaxVar} {
		l := someLogin()
		l.head[1] = p
		l.check(t, "no principal", impl.CeBad)
	}
}

func TestProofsOfALogin(t *testing.T) {
	l := someLogin()
	for _, inside := range [][]int{nil, {8}, {38}, {8, 38, 0}, {8, 38, 9, 9}, {7, 38}, {9, 38}, {0, 38}, {38, 8}, {38, 38}, {264, 38}, {7, 0, 38, 9}} {
		l.inside = inside
		l.check(t, "another proof", impl.CePre)
	}
	for _, proof := range []string{
		"a\x00", "k\x01", "l\x00", impl.Nums([]int{8, 38}), impl.Seal(1, "a\x00"), impl.Seal(1, impl.Num(8)), impl.Seal(1, key(8)),
		impl.Seal(1, list(impl.Num(8), "a\x00")), impl.Seal(1, list(impl.Num(8), key(38))), impl.Seal(1, list(impl.Num(8), "a\x02\xa6\x00")),
		impl.Seal(1, impl.Seal(1, impl.Nums([]int{8, 38}))), impl.Seal(2, impl.Seal(1, impl.Nums([]int{8, 38}))), list(impl.Seal(1, impl.Nums([]int{8, 38}))),
		impl.Seal(1, list(impl.Nums([]int{8, 38}))), rawAuth(auth(0, 38, 8), 1),
	} {
		someAsking().checkReq(t, "no proof", list(impl.Nums([]int{1, 0, 777}), proof), impl.CePre)
	}
	for _, k := range keysAround() {
		l := someLogin()
		l.sealKey = k
		if k >= 1 && k <= 1000000 && k != 1 {
			l.check(t, "sealed with another key", impl.CePre)
		}
	}
}

func TestLoginAsFarAsSkewSays(t *testing.T) {
	for _, skew := range []int{0, 1, 5, 20} {
		for _, now := range []int{0, 1, 20, 40, 99950} {
			for away := -skew - 2; away <= skew+2; away++ {
				if now+away < 0 {
					continue
				}
				l := someLogin()
				l.c.Skew, l.now, l.inside[1] = skew, now, now+away
				code := impl.CeOk
				if away < -skew || away > skew {
					code = impl.CeSkew
				}
				l.check(t, "so far away", code)
				x := someAsking()
				x.c.Skew, x.now, x.a.Time, x.shown.Rest.End = skew, now, now+away, now
				x.check(t, "an Auth so far away", code)
				d := someDelegation()
				d.c.Skew, d.now, d.a.Time, d.shown.Rest.End, d.evid.Rest.End = skew, now, now+away, now, now
				d.check(t, "an Auth so far away", code)
			}
		}
	}
	l := someLogin()
	l.inside[1] = impl.MaxVar
	l.check(t, "as far as can be", impl.CeSkew)
	l.now, l.inside[1] = 100000, 100005
	l.check(t, "a time beyond the last one", impl.CeEnd)
	l.inside[1] = 100006
	l.check(t, "a time too far beyond the last one", impl.CeSkew)
	l.now, l.inside[1] = 99951, 99951
	l.check(t, "Life beyond the last one", impl.CeEnd)
	l.now, l.inside[1] = 99950, 99955
	l.check(t, "Life up to the last one", impl.CeOk)
}

func TestTargetsAndRests(t *testing.T) {
	for _, target := range []int{3, 4, 5, 10, 11, 12, 100, 1000000, impl.MaxVar} {
		for _, x := range []askingFor{someAsking(), someDelegation()} {
			x.head[1] = target
			x.check(t, "no service", impl.CeBad)
		}
	}
	for _, x := range []askingFor{someAsking(), someDelegation()} {
		for _, wrong := range []impl.Rest{rest(8, 7, 70), rest(6, 256, 70), rest(6, 7, 100001), rest(impl.MaxVar, 0, 0)} {
			y := x
			y.rest = wrong
			y.check(t, "no Rest", impl.CeBad)
		}
		for _, s := range []string{"a\x00", "k\x05", "l\x00", impl.Nums([]int{6, 7}), impl.Nums([]int{6, 7, 70, 0}), impl.Seal(102, impl.Nums([]int{6, 7, 70})), list(impl.Num(6), impl.Num(7), key(70)), list(impl.Num(6), impl.Num(7), "a\x02\xc6\x00")} {
			parts := x.parts()
			parts[3] = s
			x.checkReq(t, "no Rest", list(parts...), impl.CeBad)
		}
	}
}

// Each ticket with each receiver, sealed with each key, at each centre: just those for this centre are taken, by its own key and by those of Links to it.
func TestTicketsThatAreShown(t *testing.T) {
	taken := map[int]int{}
	for bits := range 64 {
		for realm := range 3 {
			for _, service := range []int{0, 1, 2, 10, 11, 12} {
				for k := 1; k <= 40; k++ {
					x := someAsking()
					x.c.Links, x.c.ServiceRealm = someOf(unlikePairs, bits), []int{realm, realm, realm}
					x.realm, x.shown.Service, x.shownKey, x.shown.Path = realm, service, k, []int{2, 2}
					path := []int{2, 2}
					ok := k == 21+realm
					for _, link := range x.c.Links {
						if link.B == realm && k == 31+3*link.A+realm {
							ok, path = true, []int{2, 2, link.A}
						}
					}
					if !ok || service != 10+realm {
						x.check(t, "not for this centre", impl.CeBad)
						continue
					}
					got := x.check(t, "for this centre", impl.CeOk)
					if y, _ := checkSealed(t, "for this centre", got, 12, 102); !slices.Equal(y.Path, path) {
						t.Errorf("with key %d at %d: %v, not %v", k, realm, y.Path, path)
					}
					taken[k]++
				}
			}
		}
	}
	if len(taken) != 9 {
		t.Errorf("taken with these keys: %v", taken)
	}
}

func TestWhatIsShownInPlaceOfATicket(t *testing.T) {
	for _, x := range []askingFor{someAsking(), someDelegation()} {
		inside := list(rawTicketParts(x.shown)...)
		for _, s := range []string{
			"a\x00", "k\x15", "l\x00", inside, impl.Seal(21, "a\x00"), impl.Seal(21, impl.Seal(21, inside)), list(impl.Seal(21, inside)),
			rawGrant(someGrant(), 21), rawAuth(x.a, 21), impl.Seal(21, list(append(rawTicketParts(x.shown), "l\x00")...)), impl.Seal(21, list(rawTicketParts(x.shown)[:4]...)),
		} {
			parts := x.parts()
			parts[1] = s
			x.checkReq(t, "no ticket", list(parts...), impl.CeBad)
		}
		for _, spoil := range []func(y *impl.Ticket){
			func(y *impl.Ticket) { y.Client = 6 }, func(y *impl.Ticket) { y.Rest.Ops = 256 }, func(y *impl.Ticket) { y.Path = []int{3} },
			func(y *impl.Ticket) { y.Path = []int{0, 0, 0, 0, 0, 0, 0} }, func(y *impl.Ticket) { y.Via = []int{0, 0, 0, 0, 0} },
		} {
			y := x
			spoil(&y.shown)
			y.check(t, "a Ticket that is not right", impl.CeBad)
		}
	}
}

func TestAuthsThatAreShown(t *testing.T) {
	for _, x := range []askingFor{someAsking(), someDelegation()} {
		for client := range 6 {
			y := x
			y.a.Client = client
			code := impl.CePre
			if client == x.shown.Client {
				code = impl.CeOk
			}
			y.check(t, "an Auth of that client", code)
		}
		for _, k := range keysAround() {
			y := x
			y.authKey = k
			if k >= 1 && k <= 1000000 && k != 102 {
				y.check(t, "an Auth with another key", impl.CePre)
			}
		}
		for _, spoil := range []func(a *impl.Auth){func(a *impl.Auth) { a.Client = 6 }, func(a *impl.Auth) { a.Time = 100001 }, func(a *impl.Auth) { a.Seq = 1000001 }} {
			y := x
			spoil(&y.a)
			y.check(t, "an Auth that is not right", impl.CePre)
		}
		for _, s := range []string{
			"a\x00", "k\x66", "l\x00", impl.Nums([]int{7, x.a.Client, 38, 9}), impl.Seal(102, "a\x00"), impl.Seal(102, impl.Nums([]int{8, x.a.Client, 38, 9})), impl.Seal(102, impl.Nums([]int{7, x.a.Client, 38})),
			impl.Seal(102, impl.Nums([]int{7, x.a.Client, 38, 9, 0})), impl.Seal(102, impl.Nums([]int{8, 38})), impl.Seal(102, rawAuth(x.a, 102)), rawTicket(x.shown, 102),
		} {
			parts := x.parts()
			parts[2] = s
			x.checkReq(t, "no Auth", list(parts...), impl.CePre)
		}
		x.a.Seq = 1000000
		x.check(t, "another Seq", impl.CeOk)
	}
}

func TestAskAtTheEndOfWhatIsShown(t *testing.T) {
	for _, end := range []int{0, 1, 39, 40, 41, 100, 99999, 100000} {
		for now := max(0, end-2); now <= min(100000, end+2); now++ {
			code := impl.CeOk
			if now > end {
				code = impl.CeEnd
			}
			x := someAsking()
			x.now, x.a.Time, x.shown.Rest.End = now, now, end
			got := x.check(t, "the ticket's End", code)
			if code == impl.CeOk && got.Event.Rest.End != min(end, 70) {
				t.Errorf("End %d: %+v", end, got.Event)
			}
			d := someDelegation()
			d.now, d.a.Time, d.shown.Rest.End, d.evid.Rest.End = now, now, end, 100000
			d.check(t, "the ticket's End", code)
			d.shown.Rest.End, d.evid.Rest.End = 100000, end
			got = d.check(t, "evid's End", code)
			if code == impl.CeOk && got.Event.Rest.End != min(end, 70) {
				t.Errorf("evid's End %d: %+v", end, got.Event)
			}
		}
	}
	// What is asked for may have gone: what is given is then good for nothing any more.
	x := someAsking()
	x.rest = rest(0, 0, 0)
	if got := x.check(t, "what has gone", impl.CeOk); got.Event.Rest != rest(0, 0, 0) {
		t.Errorf("%+v", got.Event)
	}
}

func TestPathsOfWhatIsShown(t *testing.T) {
	all := []int{0, 1, 2, 2, 1, 0}
	for count := range 7 {
		for _, target := range []int{0, 1, 2} {
			for _, linked := range []bool{false, true} {
				x := someAsking()
				x.c.Links, x.c.ServiceRealm = pairs(2, 0, 0, 1, 1, 2), []int{1, 0, 2}
				x.head[1], x.shown.Path, x.shown.Via = target, all[:count], []int{2, 1}
				path, code := all[:count], impl.CeOk
				if linked {
					x.shownKey, path = 37, append(slices.Clone(path), 2)
				}
				if len(path) > 6 {
					code = impl.CeNoPath
				}
				got := x.check(t, "a Path", code)
				if code != impl.CeOk {
					continue
				}
				forKey := []int{32, 12, 32}[target]
				if y, _ := checkSealed(t, "a Path", got, forKey, 102); !slices.Equal(y.Path, path) || !slices.Equal(y.Via, []int{2, 1}) {
					t.Errorf("a Path of %d: %+v", count, y)
				}
			}
		}
		// In a user's name the Path is that of evid; that of the ticket must be short enough all the same.
		d := someDelegation()
		d.c.Links = pairs(2, 0)
		d.shown.Path, d.evid.Path = all[:count], all
		got := d.check(t, "both Paths", impl.CeOk)
		if y, _ := checkSealed(t, "both Paths", got, 12, 102); !slices.Equal(y.Path, all) {
			t.Errorf("evid's Path is %v, not %v", y.Path, all)
		}
		d.shownKey = 37
		code := impl.CeOk
		if count == 6 {
			code = impl.CeNoPath
		}
		d.check(t, "both Paths, by a Link", code)
	}
}

// Each choice of Links, from each realm, to a target in each realm.
func TestTargetsOfEachRealm(t *testing.T) {
	kinds := map[int]int{}
	for bits := range 64 {
		for realm := range 3 {
			for there := range 3 {
				x := someAsking()
				x.c.Links, x.c.ServiceRealm = someOf(unlikePairs, bits), []int{realm, there, (there + 1) % 3}
				x.realm, x.shown.Service, x.shownKey = realm, 10+realm, 21+realm
				hop := plainHop(x.c, realm, there)
				switch {
				case there == realm:
					got := x.check(t, "of this realm", impl.CeOk)
					checkSealed(t, "of this realm", got, 12, 102)
					if got.Event != (impl.Event{Kind: impl.EvIssue, Realm: realm, By: 0, Client: 0, Service: 1, Key: 104, Parent: 102, Rest: rest(2, 6, 60)}) {
						t.Errorf("%+v", got.Event)
					}
				case hop == -1:
					x.check(t, "no way", impl.CeNoPath)
					kinds[0]++
				default:
					got := x.check(t, "of another realm", impl.CeOk)
					y, _ := checkSealed(t, "of another realm", got, 31+3*realm+hop, 102)
					if got.Event != (impl.Event{Kind: impl.EvRefer, Realm: realm, By: 0, Client: 0, Service: 10 + hop, Key: 104, Parent: 102, Rest: rest(2, 6, 60)}) || y.Service != 10+hop {
						t.Errorf("%+v", got.Event)
					}
				}
				kinds[plainCentre(x.c, x.realm, x.now, x.fresh, x.req()).Event.Kind]++
			}
		}
	}
	if kinds[0] < 50 || kinds[impl.EvIssue] < 50 || kinds[impl.EvRefer] < 50 {
		t.Error(kinds)
	}
}

// A ticket goes from realm to realm as it was handed out, and gets there.
func TestAskFromRealmToRealm(t *testing.T) {
	c := centreConfig()
	shown, session, by := impl.ShowTicket(impl.Ticket{Client: 0, Service: 10, Key: 102, Rest: rest(7, 255, 90)}, 21), 102, 0
	for i, step := range []struct {
		forKey, kind, service int
		path                  []int
		asked                 impl.Rest
	}{
		{32, impl.EvRefer, 11, nil, rest(7, 255, 100)},
		{36, impl.EvRefer, 12, []int{0}, rest(5, 127, 80)},
		{13, impl.EvIssue, 2, []int{0, 1}, rest(6, 15, 200)},
	} {
		fresh := 200 + i
		req := impl.AskReq(shown, session, auth(by, 41, i), 2, step.asked, 300+i, "")
		got := checkCentre(t, "on the way", c, i, 40, fresh, req)
		if got.Code != impl.CeOk || got.Event.Kind != step.kind || got.Event.Service != step.service || got.Event.Parent != session {
			t.Fatalf("%d: %+v", i, got)
		}
		parts, _ := impl.Parts(got.Term)
		x, ok := impl.ReadTicket(parts[1], step.forKey)
		if g, granted := impl.ReadGrant(parts[2], session); !ok || !granted || g.Nonce != 300+i || !slices.Equal(x.Path, step.path) || !impl.Entails(x.Rest, step.asked) {
			t.Fatalf("%d: %+v, %+v", i, x, g)
		}
		shown, session = parts[1], fresh
	}
	if x, _ := impl.ReadTicket(shown, 13); x.Rest != rest(4, 15, 80) || x.Client != 0 || x.Key != 202 {
		t.Errorf("%+v", x)
	}
}

func TestDelegation(t *testing.T) {
	d := someDelegation()
	got := d.check(t, "in a user's name", impl.CeOk)
	if got.Event != (impl.Event{Kind: impl.EvDelegate, Realm: 0, By: 3, Client: 1, Service: 1, Key: 104, Parent: 102, Evid: 103, Rest: rest(6, 5, 65)}) {
		t.Errorf("%+v", got.Event)
	}
	x, g := checkSealed(t, "in a user's name", got, 12, 102)
	if !sameTicket(x, impl.Ticket{Client: 1, Service: 1, Key: 104, Rest: rest(6, 5, 65), Path: []int{1, 2}, Via: []int{2, 0}}) {
		t.Errorf("%+v", x)
	}
	if g != (impl.Grant{Key: 104, Service: 1, Nonce: 778, Rest: rest(6, 5, 65)}) {
		t.Errorf("%+v", g)
	}
	// What the asking service's own ticket is good for does not count, its End does.
	d.shown.Rest = rest(0, 0, 40)
	if got := d.check(t, "an own ticket for nothing", impl.CeOk); got.Event.Rest != rest(6, 5, 65) {
		t.Errorf("%+v", got.Event)
	}
	// Whose ticket evid is does not count: a service's will do.
	for client := range 6 {
		d.evid.Client = client
		if got := d.check(t, "evid of each principal", impl.CeOk); got.Event.Client != client || got.Event.By != 3 {
			t.Errorf("%+v", got.Event)
		}
	}
}

// Each client, each target, each choice of where the services are, and Proxies with and without the pair.
func TestWhoMayAskInAnothersName(t *testing.T) {
	allowed := 0
	for place := range 27 {
		for client := range 6 {
			for target := range 3 {
				for bits := range 4 {
					d := someDelegation()
					d.c.UserRealm = []int{0, 0, 0}
					d.c.ServiceRealm = []int{place % 3, place / 3 % 3, place / 9}
					d.shown.Client, d.a.Client, d.head[1] = client, client, target
					d.evid.Service, d.evidKey = max(0, client-3), plainKeyOf(max(3, client))
					s := client - 3
					d.c.Proxy = pairs(target, (target+1)%3, (target+2)%3, target)
					pair := impl.Pair{A: s, B: target}
					switch {
					case bits&1 == 0:
						d.c.Proxy = slices.DeleteFunc(d.c.Proxy, func(p impl.Pair) bool { return p == pair })
					case client >= 3 && !slices.Contains(d.c.Proxy, pair):
						d.c.Proxy = append(d.c.Proxy, pair)
					}
					if bits&2 != 0 {
						slices.Reverse(d.c.Proxy)
					}
					code := impl.CePolicy
					if client >= 3 && bits&1 == 1 && d.c.ServiceRealm[s] == 0 && d.c.ServiceRealm[target] == 0 {
						code = impl.CeOk
						allowed++
					}
					got := d.check(t, "in another's name", code)
					if code != impl.CeOk {
						continue
					}
					if x, _ := checkSealed(t, "in another's name", got, 11+target, 102); !slices.Equal(x.Via, []int{2, s}) || x.Service != target {
						t.Errorf("%d asks for %d: %+v", s, target, x)
					}
				}
			}
		}
	}
	if allowed < 50 {
		t.Error(allowed)
	}
}

func TestPairsOfProxyHaveADirection(t *testing.T) {
	d := someDelegation()
	d.c.Proxy = pairs(1, 0)
	d.check(t, "the other way round", impl.CePolicy)
	d.c.Proxy = nil
	d.check(t, "no pair", impl.CePolicy)
	d.c.Proxy = pairs(0, 0, 1, 1, 0, 2, 2, 1, 1, 0)
	d.check(t, "all near it", impl.CePolicy)
	d.c.Proxy = pairs(0, 0, 1, 1, 0, 2, 2, 1, 1, 0, 0, 1)
	d.check(t, "it is the last one", impl.CeOk)
	d.head[1] = 0
	d.check(t, "a service for itself", impl.CeOk)
}

func TestEvid(t *testing.T) {
	for _, service := range []int{0, 1, 2, 10, 11, 12} {
		for _, k := range append(keysAround(), 11) {
			if k < 1 || k > 1000000 {
				continue
			}
			d := someDelegation()
			d.evid.Service, d.evidKey = service, k
			code := impl.CeBad
			if service == 0 && k == 11 {
				code = impl.CeOk
			}
			d.check(t, "evid for that service", code)
		}
	}
	d := someDelegation()
	inside := list(rawTicketParts(*d.evid)...)
	for _, s := range []string{
		"a\x01\x00", "a\x01x", "k\x0b", "l\x00", inside, impl.Seal(11, "a\x00"), impl.Seal(11, impl.Seal(11, inside)), list(impl.Seal(11, inside)), impl.Seal(12, impl.Seal(11, inside)),
		rawGrant(someGrant(), 11), rawAuth(d.a, 11), impl.Seal(11, list(append(rawTicketParts(*d.evid), "l\x00")...)), impl.Seal(11, list(rawTicketParts(*d.evid)[:4]...)), rawTicket(d.shown, 21),
	} {
		parts := d.parts()
		parts[4] = s
		d.checkReq(t, "evid that is no Ticket", list(parts...), impl.CeBad)
		// A user has no evid of its own to show: who asks is asked first.
		x := someAsking()
		parts = x.parts()
		parts[4] = s
		x.checkReq(t, "evid of a user", list(parts...), impl.CePolicy)
	}
	parts := d.parts()
	parts[4] = "a\x00"
	if got := d.checkReq(t, "without evid", list(parts...), impl.CeOk); got.Event.Kind != impl.EvIssue || got.Event.Client != 3 {
		t.Errorf("a service in its own name: %+v", got.Event)
	}
}

func TestViaOfEvid(t *testing.T) {
	all := []int{2, 1, 0, 2}
	for count := range 5 {
		d := someDelegation()
		d.evid.Via = all[:count]
		if count == 4 {
			d.check(t, "a Via of MaxVia", impl.CePolicy)
			continue
		}
		got := d.check(t, "a Via", impl.CeOk)
		if x, _ := checkSealed(t, "a Via", got, 12, 102); !slices.Equal(x.Via, append(slices.Clone(all[:count]), 0)) {
			t.Errorf("behind %v comes %v", all[:count], x.Via)
		}
		// The Via of the ticket does not count here.
		d.shown.Via = all
		got = d.check(t, "a Via, and that of the ticket", impl.CeOk)
		if x, _ := checkSealed(t, "a Via, and that of the ticket", got, 12, 102); len(x.Via) != count+1 {
			t.Errorf("behind %v comes %v", all[:count], x.Via)
		}
	}
	x := someAsking()
	x.shown.Via = all
	got := x.check(t, "a Via of MaxVia that is handed on", impl.CeOk)
	if y, _ := checkSealed(t, "a Via of MaxVia that is handed on", got, 12, 102); !slices.Equal(y.Via, all) {
		t.Errorf("%v is handed on as %v", all, y.Via)
	}
}

// Reasons are put together, from the last one that the document names to the first one: the first one is answered.
func TestWhyALoginIsRefused(t *testing.T) {
	reasons := []struct {
		code  int
		spoil func(l *loggingIn)
	}{
		{impl.CeEnd, func(l *loggingIn) { l.now, l.inside[1] = 99951, 99949 }},
		{impl.CeSkew, func(l *loggingIn) { l.inside[1] -= 4 }},
		{impl.CePre, func(l *loggingIn) { l.inside[0] = 7 }},
		{impl.CePre, func(l *loggingIn) { l.sealKey = 2 }},
		{impl.CeBad, func(l *loggingIn) { l.c.UserRealm = []int{1, 1, 2} }},
		{impl.CeBad, func(l *loggingIn) { l.head[0] = 3 }},
		{impl.CeBad, func(l *loggingIn) { l.head[2] = 1000001 }},
		{impl.CeBad, func(l *loggingIn) { l.fresh = 100 }},
		{impl.CeBad, func(l *loggingIn) { l.c.Links = pairs(1, 1) }},
	}
	for bits := range 1 << len(reasons) {
		l, want := someLogin(), impl.CeOk
		for i, reason := range reasons {
			if bits>>i&1 == 1 {
				reason.spoil(&l)
				want = reason.code
			}
		}
		l.check(t, "reasons", want)
	}
}

func TestWhyAnAskIsRefused(t *testing.T) {
	type reason struct {
		code  int
		spoil func(x *askingFor)
	}
	common := []reason{
		{impl.CeNoPath, func(x *askingFor) { x.shown.Path, x.shownKey = []int{1, 1, 1, 1, 1, 1}, 37 }},
		{impl.CeEnd, func(x *askingFor) { x.shown.Rest.End = 39 }},
		{impl.CeSkew, func(x *askingFor) { x.a.Time = 46 }},
		{impl.CePre, func(x *askingFor) { x.a.Client = 5 }},
		{impl.CePre, func(x *askingFor) { x.authKey = 103 }},
		{impl.CeBad, func(x *askingFor) { x.shownKey = 34 }},
		{impl.CeBad, func(x *askingFor) { x.shown.Service = 11 }},
		{impl.CeBad, func(x *askingFor) { x.rest.Ops = 256 }},
		{impl.CeBad, func(x *askingFor) { x.head[1] = 3 }},
		{impl.CeBad, func(x *askingFor) { x.now = 100001 }},
	}
	own := []reason{{impl.CeNoPath, func(x *askingFor) { x.c.ServiceRealm = []int{0, 2, 0}; x.c.Links = pairs(2, 0, 0, 1) }}}
	named := []reason{
		{impl.CePolicy, func(x *askingFor) { x.evid.Via = []int{0, 1, 2, 0} }},
		{impl.CePolicy, func(x *askingFor) { x.c.Proxy = pairs(1, 0) }},
		{impl.CeEnd, func(x *askingFor) { x.evid.Rest.End = 39 }},
		{impl.CeBad, func(x *askingFor) { x.evidKey = 12 }},
		{impl.CeBad, func(x *askingFor) { x.evid.Service = 1 }},
		{impl.CePolicy, func(x *askingFor) { x.c.ServiceRealm = []int{0, 1, 2} }},
		{impl.CePolicy, func(x *askingFor) { x.c.ServiceRealm = []int{1, x.c.ServiceRealm[1], 2} }},
		{impl.CePolicy, func(x *askingFor) { x.shown.Client, x.a.Client = 0, 0 }},
	}
	codes := map[int]int{}
	for i, first := range []func() askingFor{someAsking, someDelegation} {
		reasons := append([][]reason{own, named}[i], common...)
		for choice := range 1 << len(reasons) {
			if bits.OnesCount(uint(choice)) > 4 {
				continue
			}
			x, want := first(), impl.CeOk
			x.c.Links = pairs(2, 0, 0, 1, 1, 2)
			for i, reason := range reasons {
				if choice>>i&1 == 1 {
					reason.spoil(&x)
					want = reason.code
				}
			}
			x.check(t, "reasons", want)
			codes[want]++
		}
	}
	if len(codes) != 7 {
		t.Error(codes)
	}
}

func anyPairs(r *rand.Rand, all []impl.Pair) []impl.Pair {
	l := slices.Clone(all)
	r.Shuffle(len(l), func(i, j int) { l[i], l[j] = l[j], l[i] })
	return l[:min(6, r.Intn(len(l)+3), len(l))]
}

func anyThree(r *rand.Rand) []int { return []int{r.Intn(3), r.Intn(3), r.Intn(3)} }

func anyCentreConfig(r *rand.Rand, wrong int) impl.Config {
	twos := pairs(0, 0, 0, 1, 0, 2, 1, 0, 1, 1, 1, 2, 2, 0, 2, 1, 2, 2)
	c := impl.Config{UserRealm: anyThree(r), ServiceRealm: anyThree(r), Links: anyPairs(r, unlikePairs), Proxy: anyPairs(r, twos), Skew: numberNear(r, 0, 20, wrong)}
	if r.Intn(2) == 0 {
		c.ServiceRealm = slices.Repeat([]int{r.Intn(3)}, 3)
	}
	return c
}

// anyAsking is mostly one that is taken: what it shows is spoilt as often as wrong says (of so many ones).
func anyAsking(r *rand.Rand, wrong int) askingFor {
	c, realm, now := anyCentreConfig(r, wrong), r.Intn(3), []int{0, 30, 99999, numberNear(r, 0, 100000, wrong)}[r.Intn(4)]
	spoilt := func() bool { return wrong > 0 && r.Intn(wrong) == 0 }
	x := askingFor{c: c, realm: realm, now: now, fresh: numberNear(r, 101, 1000000, wrong), head: []int{2, numberNear(r, 0, 2, wrong), numberNear(r, 0, 1000000, wrong)}}
	x.head[1], x.head[2] = max(0, x.head[1]), max(0, x.head[2])
	x.shown = anyTicket(r, 0)
	x.shown.Service, x.shownKey, x.shown.Rest.End = 10+realm, 21+realm, max(0, min(100000, now-1+r.Intn(60)))
	if spoilt() {
		x.shown.Service = anyReceiver(r, 0)
	}
	if r.Intn(3) == 0 {
		x.shownKey = 31 + 3*r.Intn(3) + realm
	}
	if r.Intn(2) == 0 {
		x.shown.Client = 3 + r.Intn(3)
	}
	x.a, x.authKey = auth(x.shown.Client, max(0, now-c.Skew+r.Intn(2*max(0, c.Skew)+1)), r.Intn(9)), x.shown.Key
	if spoilt() {
		x.a.Client = r.Intn(6)
	}
	if spoilt() {
		x.a.Time = max(0, now+[]int{-1, 1}[r.Intn(2)]*(c.Skew+r.Intn(5)))
	}
	if spoilt() {
		x.authKey = 102
	}
	x.rest = anyRest(r, 0)
	if r.Intn(2) == 0 {
		evid := anyTicket(r, 0)
		evid.Service, x.evidKey, evid.Rest.End = max(0, x.shown.Client-3), plainKeyOf(x.shown.Client), max(0, min(100000, now-1+r.Intn(60)))
		if spoilt() {
			evid.Service = anyReceiver(r, 0)
		}
		x.evid = &evid
		if r.Intn(2) == 0 {
			x.c.ServiceRealm = slices.Repeat([]int{realm}, 3)
		}
	}
	return x
}

func TestAnyAsk(t *testing.T) {
	r := rand.New(rand.NewSource(8))
	codes, kinds := map[int]int{}, map[int]int{}
	for i := range 60000 {
		x := anyAsking(r, []int{0, 0, 8}[i%3])
		got := checkCentre(t, "any", x.c, x.realm, x.now, x.fresh, x.req())
		codes[got.Code]++
		kinds[got.Event.Kind]++
		if got.Code == impl.CeOk {
			checkGiven(t, x, got)
		}
	}
	for code := range 7 {
		if codes[code] < 300 {
			t.Errorf("too few of code %d: %v", code, codes)
		}
	}
	for _, kind := range []int{impl.EvIssue, impl.EvRefer, impl.EvDelegate} {
		if kinds[kind] < 1000 {
			t.Errorf("too few of kind %d: %v", kind, kinds)
		}
	}
}

// checkGiven asks for promise 8 of what was given: it is within what was shown and asked for, sealed for who it is for, and told to who asked.
func checkGiven(t *testing.T, x askingFor, got impl.Reply) {
	t.Helper()
	parts, _ := impl.Parts(got.Term)
	e := got.Event
	forKey := map[int]int{impl.EvIssue: 11 + e.Service, impl.EvDelegate: 11 + e.Service, impl.EvRefer: 31 + 3*x.realm + e.Service - 10}[e.Kind]
	y, ok := impl.ReadTicket(parts[1], forKey)
	g, granted := impl.ReadGrant(parts[2], x.shown.Key)
	if !ok || !granted || y.Service != e.Service || g.Key != y.Key || y.Key != x.fresh || g.Nonce != x.head[2] {
		t.Fatalf("%+v: %+v, %+v", e, y, g)
	}
	shown := x.shown
	if x.evid != nil {
		shown = *x.evid
	}
	if !plainEntails(y.Rest, shown.Rest) || !plainEntails(y.Rest, x.rest) || e.Rest != y.Rest || g.Rest != y.Rest {
		t.Fatalf("%+v is wider than %+v or %+v", y.Rest, shown.Rest, x.rest)
	}
	if e.By != x.shown.Client || e.Client != shown.Client || y.Client != shown.Client || e.Parent != x.shown.Key {
		t.Fatalf("%+v of %+v", e, shown)
	}
}

// A text with a byte changed, left out or put in is answered as plain words say, and nothing panics.
func TestRequestsThatAreChanged(t *testing.T) {
	for _, req := range []string{someLogin().req(), someAsking().req(), someDelegation().req()} {
		x := someAsking()
		for i := range req {
			checkCentre(t, "left out", x.c, x.realm, x.now, x.fresh, req[:i]+req[i+1:])
			checkCentre(t, "cut", x.c, x.realm, x.now, x.fresh, req[:i])
			for _, b := range []byte{0, 1, 2, 3, 5, 7, 8, 11, 12, 21, 32, 104, 'a', 'k', 'l', 's', 0x80, 0xff, req[i] + 1, req[i] - 1} {
				checkCentre(t, "changed", x.c, x.realm, x.now, x.fresh, req[:i]+string([]byte{b})+req[i+1:])
				checkCentre(t, "put in", x.c, x.realm, x.now, x.fresh, req[:i]+string([]byte{b})+req[i:])
			}
		}
	}
	x := someAsking()
	swaps(x.parts(), func(parts []string) { checkCentre(t, "changed places", x.c, x.realm, x.now, x.fresh, list(parts...)) })
	r := rand.New(rand.NewSource(80))
	for range 3000 {
		req := list(impl.Nums([]int{1 + r.Intn(2), r.Intn(4), r.Intn(5)}), anyTerm(r, 3), anyTerm(r, 2), anyTerm(r, 2), anyTerm(r, 2))
		checkCentre(t, "any term", x.c, x.realm, x.now, x.fresh, req)
	}
}

func TestCentresKeepNothing(t *testing.T) {
	for _, x := range []askingFor{someAsking(), someDelegation()} {
		first := x.check(t, "first", impl.CeOk)
		someLogin().check(t, "between", impl.CeOk)
		if again := x.check(t, "again", impl.CeOk); again != first {
			t.Errorf("%+v, then %+v", first, again)
		}
	}
}
