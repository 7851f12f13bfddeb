package tests

import (
	"math"
	"math/rand"
	"reflect"
	"slices"
	"strings"
	"testing"

	"loop.example/g00769/impl"
)

// Ends by plain words: what the tests hold the program's answers against.

func plainCredOk(x impl.Cred) bool {
	_, term := plainTermOf(x.Ticket)
	return plainPrincipal(x.Owner) && plainPrincipal(x.Client) && plainReceiver(x.Service) && x.Key >= 1 && x.Key <= 1000000 && plainRight(x.Rest) && term
}

// plainTake is what the document says of TakeReply, word by word.
func plainTake(owner, client, key, nonce int, term string) (impl.Cred, bool) {
	parts := plainParts(term, 3)
	if !plainPrincipal(owner) || !plainPrincipal(client) || parts == nil || !slices.Equal(plainNums(parts[0]), []int{3, nonce}) {
		return impl.Cred{}, false
	}
	g, ok := plainReadGrant(parts[2], key)
	if !ok || g.Nonce != nonce {
		return impl.Cred{}, false
	}
	return impl.Cred{Owner: owner, Client: client, Service: g.Service, Key: g.Key, Rest: g.Rest, Ticket: parts[1]}, true
}

func plainApply(x impl.Cred, a impl.Auth, op int) string {
	if !plainCredOk(x) || !plainAuthOk(a) || op < 0 || op > impl.MaxVar {
		return ""
	}
	s := "l\x03" + impl.Nums([]int{4, x.Service, op}) + x.Ticket + rawAuth(a, x.Key)
	if _, ok := plainTermOf(s); !ok {
		return ""
	}
	return s
}

// plainServe is what the document says of Serve, word by word.
func plainServe(c impl.Config, s, now int, h impl.Cache, req string) (impl.Cache, impl.Accept, int) {
	if !plainCacheOk(h) {
		return impl.Cache{}, impl.Accept{}, 1
	}
	parts := plainParts(req, 3)
	if !plainConfigOk(c) || !isThree(s) || now < 0 || now > 100000 || parts == nil {
		return h, impl.Accept{}, 1
	}
	head := plainNums(parts[0])
	if len(head) != 3 || head[0] != 4 || head[1] != s || head[2] > 7 {
		return h, impl.Accept{}, 1
	}
	x, ok := plainReadTicket(parts[1], 11+s)
	if !ok || x.Service != s {
		return h, impl.Accept{}, 1
	}
	a, ok := plainReadAuth(parts[2], x.Key)
	if !ok || a.Client != x.Client {
		return h, impl.Accept{}, 1
	}
	if !plainPermits(x.Rest, s, head[2], now) {
		return h, impl.Accept{}, 2
	}
	next, code := plainTry(h, a, now, c.Skew)
	if code != 0 {
		return h, impl.Accept{}, 10 + code
	}
	return next, impl.Accept{Server: s, Client: x.Client, Key: x.Key, Op: head[2], Now: now, Auth: a, Rest: x.Rest, Path: x.Path, Via: x.Via, Ticket: parts[1]}, 0
}

func sameAccept(a, b impl.Accept) bool {
	same := slices.Equal(a.Path, b.Path) && slices.Equal(a.Via, b.Via)
	a.Path, a.Via, b.Path, b.Via = nil, nil, nil, nil
	return same && reflect.DeepEqual(a, b)
}

func copiedAccept(a impl.Accept) impl.Accept {
	a.Path, a.Via = slices.Clone(a.Path), slices.Clone(a.Via)
	return a
}

// overwritten writes into a list, and into the spare room behind it.
func overwritten[T any](l []T, with T) {
	all := l[:cap(l)]
	for i := range all {
		all[i] = with
	}
}

// checkServe holds an answer against plain words; asks that no argument is changed, that what is answered shares no memory with one, nor within itself, and for promise 9: what is taken is permitted, and not taken again.
func checkServe(t *testing.T, what string, c impl.Config, s, now int, h impl.Cache, req string) (impl.Cache, impl.Accept, int) {
	t.Helper()
	handed, asItWas := withRoom(c)
	room := append(slices.Clone(h.Seen), authsAt(-7, -8, -9)...)
	before := slices.Clone(room)
	cache, taken, code := impl.Serve(handed, s, now, impl.Cache{Quiet: h.Quiet, Seen: room[:len(h.Seen)]}, req)
	wantedCache, wanted, wantedCode := plainServe(c, s, now, h, req)
	if code != wantedCode || !sameCache(cache, wantedCache) || !sameAccept(taken, wanted) {
		t.Fatalf("%s: Serve(%+v, %d, %d, %+v, %q) = %+v, %+v, %d, not %+v, %+v, %d", what, c, s, now, h, req, cache, taken, code, wantedCache, wanted, wantedCode)
	}
	if code != impl.SvOk && (!sameAccept(taken, impl.Accept{}) || plainCacheOk(h) && !sameCache(cache, h)) {
		t.Fatalf("%s: a refusal of %+v comes with %+v, %+v", what, h, cache, taken)
	}
	behind, accept := impl.Cache{Quiet: cache.Quiet, Seen: slices.Clone(cache.Seen)}, copiedAccept(taken)
	if sharesMemory(taken.Ticket, req) {
		t.Fatalf("%s: %q shares memory with %q", what, taken.Ticket, req)
	}
	overwritten(cache.Seen, auth(-5, -5, -5))
	overwritten(taken.Path, -5)
	if !slices.Equal(taken.Via, accept.Via) {
		t.Fatalf("%s: Path and Via share memory", what)
	}
	overwritten(taken.Via, -6)
	if !slices.Equal(room, before) || !asItWas() {
		t.Fatalf("%s: an argument was changed, or shares memory with what is answered", what)
	}
	if code == impl.SvOk {
		checkTaken(t, what, c, behind, accept, req)
	}
	return behind, accept, code
}

// checkTaken asks for promise 9 of what was taken, and of the Cache behind it.
func checkTaken(t *testing.T, what string, c impl.Config, behind impl.Cache, taken impl.Accept, req string) {
	t.Helper()
	if !plainPermits(taken.Rest, taken.Server, taken.Op, taken.Now) {
		t.Fatalf("%s: %+v is not permitted", what, taken)
	}
	if !impl.CacheOk(behind) || !slices.Contains(behind.Seen, taken.Auth) {
		t.Fatalf("%s: behind %+v comes %+v", what, taken, behind)
	}
	for _, later := range []int{taken.Now, taken.Now + 1, taken.Auth.Time + c.Skew, taken.Auth.Time + c.Skew + 1, taken.Rest.End} {
		cache, again, code := impl.Serve(c, taken.Server, later, behind, req)
		if code == impl.SvOk || !sameCache(cache, behind) || !sameAccept(again, impl.Accept{}) {
			t.Fatalf("%s: taken again at %d: %+v, %+v, %d", what, later, cache, again, code)
		}
	}
}

// serving is a request and where it is brought; its parts can be changed one by one.
type serving struct {
	c         impl.Config
	s, now    int
	h         impl.Cache
	head      []int
	x         impl.Ticket
	ticketKey int
	a         impl.Auth
	authKey   int
}

// User 2 asks service 1 for op 3. One of what was seen has gone.
func someServing() serving {
	return serving{
		c: centreConfig(), s: 1, now: 40, h: cache(7, auth(5, 41, 6), auth(0, 34, 8), auth(2, 35, 9)), head: []int{4, 1, 3},
		x: impl.Ticket{Client: 2, Service: 1, Key: 104, Rest: rest(6, 11, 60), Path: []int{0, 2}, Via: []int{2, 1, 0}}, ticketKey: 12,
		a: auth(2, 38, 9), authKey: 104,
	}
}

func (x serving) parts() []string {
	return []string{impl.Nums(x.head), rawTicket(x.x, x.ticketKey), rawAuth(x.a, x.authKey)}
}

func (x serving) req() string { return list(x.parts()...) }

func (x serving) check(t *testing.T, what string, code int) (impl.Cache, impl.Accept) {
	t.Helper()
	if x.req() == "" {
		t.Fatalf("%s: the request is no term", what)
	}
	return x.checkReq(t, what, x.req(), code)
}

func (x serving) checkReq(t *testing.T, what, req string, code int) (impl.Cache, impl.Accept) {
	t.Helper()
	h, taken, got := checkServe(t, what, x.c, x.s, x.now, x.h, req)
	if got != code {
		t.Errorf("%s: the code is %d, not %d", what, got, code)
	}
	return h, taken
}

// Its numbers are unlike wherever they can be.
func someCred() impl.Cred {
	return impl.Cred{Owner: 4, Client: 1, Service: 2, Key: 106, Rest: rest(5, 14, 70), Ticket: rawTicket(someTicket(), 13)}
}

// checkCred holds CredOk against plain words, and asks that ApplyReq makes something just of what is right.
func checkCred(t *testing.T, what string, x impl.Cred) bool {
	t.Helper()
	got := impl.CredOk(x)
	if want := plainCredOk(x); got != want {
		t.Errorf("%s: CredOk(%+v) = %v", what, x, got)
	}
	checkApply(t, what, x, auth(3, 17, 8), 5)
	return got
}

func checkApply(t *testing.T, what string, x impl.Cred, a impl.Auth, op int) string {
	t.Helper()
	got := impl.ApplyReq(x, a, op)
	if want := plainApply(x, a, op); got != want {
		t.Fatalf("%s: ApplyReq(%+v, %+v, %d) = %q, not %q", what, x, a, op, got, want)
	}
	if sharesMemory(got, x.Ticket) {
		t.Fatalf("%s: %q shares memory with the Ticket", what, got)
	}
	return got
}

// checkTake holds an answer against plain words, and asks that what is taken is a right Cred in new memory, and that there is none beside a false.
func checkTake(t *testing.T, what string, owner, client, key, nonce int, term string, want bool) impl.Cred {
	t.Helper()
	x, ok := impl.TakeReply(owner, client, key, nonce, term)
	if cred, wanted := plainTake(owner, client, key, nonce, term); ok != wanted || x != cred {
		t.Fatalf("%s: TakeReply(%d, %d, %d, %d, %q) = %+v, %v, not %+v, %v", what, owner, client, key, nonce, term, x, ok, cred, wanted)
	}
	if ok != want {
		t.Errorf("%s: TakeReply(%d, %d, %d, %d, %q) says %v", what, owner, client, key, nonce, term, ok)
	}
	if ok != impl.CredOk(x) || !ok && x != (impl.Cred{}) {
		t.Errorf("%s: %+v, %v", what, x, ok)
	}
	if sharesMemory(x.Ticket, term) {
		t.Errorf("%s: %q shares memory with %q", what, x.Ticket, term)
	}
	return x
}

func TestEndConstants(t *testing.T) {
	if codes := []int{impl.SvOk, impl.SvBad, impl.SvDenied, impl.SvCache}; !slices.Equal(codes, []int{0, 1, 2, 10}) {
		t.Error(codes)
	}
}

func TestFieldsOfACred(t *testing.T) {
	if !checkCred(t, "all is right", someCred()) {
		t.Error("it is not right")
	}
	for _, c := range []struct {
		bounds
		set func(x *impl.Cred, n int)
	}{
		{bounds{"Owner", 0, 5}, func(x *impl.Cred, n int) { x.Owner = n }},
		{bounds{"Client", 0, 5}, func(x *impl.Cred, n int) { x.Client = n }},
		{bounds{"Service of a service", 0, 2}, func(x *impl.Cred, n int) { x.Service = n }},
		{bounds{"Service of a centre", 10, 12}, func(x *impl.Cred, n int) { x.Service = n }},
		{bounds{"Key", 1, 1000000}, func(x *impl.Cred, n int) { x.Key = n }},
		{bounds{"Servers", 0, 7}, func(x *impl.Cred, n int) { x.Rest.Servers = n }},
		{bounds{"Ops", 0, 255}, func(x *impl.Cred, n int) { x.Rest.Ops = n }},
		{bounds{"End", 0, 100000}, func(x *impl.Cred, n int) { x.Rest.End = n }},
	} {
		checkBounds(t, c.bounds, func(n int) string {
			x := someCred()
			c.set(&x, n)
			if !checkCred(t, c.what, x) {
				return ""
			}
			return "right"
		})
	}
	for n := -5; n <= 30; n++ {
		x := someCred()
		x.Service = n
		if checkCred(t, "each Service", x) != plainReceiver(n) {
			t.Errorf("Service %d", n)
		}
	}
	for _, wrong := range wrongRests() {
		x := someCred()
		x.Rest = wrong
		if checkCred(t, "a Rest that is not right", x) {
			t.Errorf("%+v", wrong)
		}
	}
	if checkCred(t, "the zero one", impl.Cred{}) {
		t.Error("the zero one")
	}
}

func TestTicketOfACred(t *testing.T) {
	ticket := someCred().Ticket
	check := func(what, ticket string, want bool) {
		t.Helper()
		x := someCred()
		x.Ticket = ticket
		if checkCred(t, what, x) != want {
			t.Errorf("%s: %q", what, ticket)
		}
	}
	for _, s := range append(someTerms(), ticket, list(), list(ticket, ticket), "k\xc0\x84\x3d") {
		check("a term", s, true)
		check("a byte short", s[:len(s)-1], false)
		check("a byte long", s+"\x00", false)
		check("a byte ahead", "a"+s, false)
	}
	for _, s := range []string{"", "x", "a", "k\x00", "k\xc1\x84\x3d", "l\x01", "s\x05", "s\x00a\x00", "a\x80\x00", strings.Repeat("a", 901)} {
		check("no term", s, false)
	}
	check("900 bytes", listOfBytes(900), true)
	check("901 bytes", listOfBytes(901), false)
	check("depth 8", listedTimes("a\x00", 7), true)
	check("depth 9", listedTimes("a\x00", 8), false)
}

// replyOf is a list as a centre answers it, whatever its Grant says.
func replyOf(nonce int, ticket string, g impl.Grant, k int) string {
	return list(impl.Nums([]int{3, nonce}), ticket, rawGrant(g, k))
}

// The nonce, the Key, the Service and the Rest are in the Grant; the key is that of who asked.
const someReplyKey, someNonce = 102, 777

func someReplyGrant() impl.Grant {
	return impl.Grant{Key: 104, Service: 1, Nonce: someNonce, Rest: rest(6, 11, 60)}
}

func someReplyParts() []string {
	return []string{impl.Nums([]int{3, someNonce}), rawTicket(someTicket(), 12), rawGrant(someReplyGrant(), someReplyKey)}
}

func TestTakeWhatACentreAnswered(t *testing.T) {
	for _, x := range []struct {
		what       string
		got        impl.Reply
		key, nonce int
		service    int
		rest       impl.Rest
	}{
		{"a login", someLogin().check(t, "a login", impl.CeOk), 1, 777, 10, rest(7, 255, 90)},
		{"an ask", someAsking().check(t, "an ask", impl.CeOk), 102, 778, 1, rest(2, 6, 60)},
		{"in a user's name", someDelegation().check(t, "in a user's name", impl.CeOk), 102, 778, 1, rest(6, 5, 65)},
	} {
		parts, _ := impl.Parts(x.got.Term)
		// Who it is for, and in whose name, is not in what is answered: it is as who asked says.
		for owner := range 6 {
			for client := range 6 {
				cred := checkTake(t, x.what, owner, client, x.key, x.nonce, x.got.Term, true)
				if cred != (impl.Cred{Owner: owner, Client: client, Service: x.service, Key: x.got.Event.Key, Rest: x.rest, Ticket: parts[1]}) {
					t.Errorf("%s: %+v", x.what, cred)
				}
			}
		}
		for _, p := range numbersAround {
			checkTake(t, "an owner", p, 2, x.key, x.nonce, x.got.Term, plainPrincipal(p))
			checkTake(t, "a client", 2, p, x.key, x.nonce, x.got.Term, plainPrincipal(p))
			checkTake(t, "both", p, p, x.key, x.nonce, x.got.Term, plainPrincipal(p))
		}
		for _, k := range append(keysAround(), math.MinInt, math.MaxInt) {
			checkTake(t, "a key", 2, 1, k, x.nonce, x.got.Term, k == x.key)
		}
		for _, nonce := range append(keysAround(), math.MinInt, math.MaxInt, impl.MaxVar, impl.MaxVar+1) {
			checkTake(t, "a nonce", 2, 1, x.key, nonce, x.got.Term, nonce == x.nonce)
		}
	}
}

func TestTakeNoncesAtTheirEdges(t *testing.T) {
	g := someReplyGrant()
	for nonce, want := range map[int]bool{math.MinInt: false, -1: false, 0: true, 1: true, 777: true, 999999: true, 1000000: true, 1000001: false, impl.MaxVar: false, math.MaxInt: false} {
		g.Nonce = nonce
		term := replyOf(nonce, "a\x00", g, someReplyKey)
		checkTake(t, "a nonce", 2, 1, someReplyKey, nonce, term, want)
		for _, other := range []int{-1, 0, 1, 1000000, 1000001} {
			checkTake(t, "another nonce", 2, 1, someReplyKey, other, term, want && other == nonce)
			h := g
			h.Nonce = other
			checkTake(t, "a Grant with another nonce", 2, 1, someReplyKey, nonce, replyOf(nonce, "a\x00", h, someReplyKey), want && other == nonce)
			checkTake(t, "another nonce beside the Grant", 2, 1, someReplyKey, nonce, replyOf(other, "a\x00", g, someReplyKey), want && other == nonce)
		}
	}
}

func TestRepliesThatAreNone(t *testing.T) {
	check := func(what, term string) {
		t.Helper()
		for _, nonce := range []int{someNonce, -1, 0, 3} {
			checkTake(t, what, 2, 1, someReplyKey, nonce, term, false)
		}
	}
	parts := someReplyParts()
	whole := list(parts...)
	checkTake(t, "all is right", 2, 1, someReplyKey, someNonce, whole, true)
	for _, s := range append(someTerms(), "", "x", "l", "l\x03", "l\x00", "l\x03l\x00l\x00l\x00", list("a\x00", "a\x00", "a\x00"), strings.Repeat("l", 901)) {
		check("no reply", s)
	}
	for count := range 3 {
		check("too few parts", list(parts[:count]...))
		check("one part left out", list(slices.Delete(slices.Clone(parts), count, count+1)...))
	}
	for place := range 4 {
		for _, s := range append(someTerms(), parts...) {
			check("four parts", list(slices.Insert(slices.Clone(parts), place, s)...))
		}
	}
	swaps(parts, func(l []string) { check("changed places", list(l...)) })
	check("sealed", impl.Seal(someReplyKey, whole))
	check("a list in a list", list(whole))
	check("cut", whole[:len(whole)-1])
	check("more behind", whole+"a\x00")
	check("more ahead", "a\x00"+whole)
	for _, s := range []string{"", "x", "a", "l\x01", "s\x05", "k\x00", "a\x00a\x00", parts[1][:len(parts[1])-1], parts[1] + "\x00"} {
		check("a second part that is no term", "l\x03"+parts[0]+s+parts[2])
	}
}

func TestFirstPartOfAReply(t *testing.T) {
	parts := someReplyParts()
	check := func(s string) {
		t.Helper()
		checkTake(t, "a first part", 2, 1, someReplyKey, someNonce, list(s, parts[1], parts[2]), false)
	}
	for _, l := range [][]int{nil, {3}, {someNonce}, {3, someNonce, 0}, {3, someNonce, someNonce}, {someNonce, 3}, {2, someNonce}, {4, someNonce}, {0, someNonce}, {3, someNonce - 1}, {3, someNonce + 1}, {3, 0}, {131, someNonce}, {3, 3}, {0, 0}} {
		check(impl.Nums(l))
	}
	for _, s := range append(someTerms(), impl.Num(3), impl.Num(someNonce), key(3), list(impl.Num(3), key(someNonce)), list(key(3), impl.Num(someNonce)), list(impl.Num(3), "a\x00"), list("a\x02\x83\x00", impl.Num(someNonce)), list(impl.Num(3), "a\x03\x89\x86\x00"), list(parts[0]), impl.Seal(someReplyKey, parts[0])) {
		check(s)
	}
}

func TestSecondPartOfAReply(t *testing.T) {
	parts := someReplyParts()
	// It need not be a Ticket: who asked can not open it.
	for _, s := range append(someTerms(), parts...) {
		if x := checkTake(t, "a second part", 2, 1, someReplyKey, someNonce, list(parts[0], s, parts[2]), true); x.Ticket != s {
			t.Errorf("%q is taken as %q", s, x.Ticket)
		}
	}
	around := len(list(parts[0], "a\x00", parts[2])) - 2
	for more := -2; more <= 2; more++ {
		filled := strings.Replace(listOfBytes(938-around+more), "l\x0ca\x24"+strings.Repeat("x", 36), "l\x0b", 1)
		checkTake(t, "900 bytes and some more", 2, 1, someReplyKey, someNonce, "l\x03"+parts[0]+filled+parts[2], more <= 0)
	}
	for depth := 1; depth <= 9; depth++ {
		checkTake(t, "so deep", 2, 1, someReplyKey, someNonce, "l\x03"+parts[0]+listedTimes("k\x01", depth-1)+parts[2], depth <= 7)
	}
}

func TestThirdPartOfAReply(t *testing.T) {
	parts, g := someReplyParts(), someReplyGrant()
	check := func(what, s string) {
		t.Helper()
		checkTake(t, what, 2, 1, someReplyKey, someNonce, list(parts[0], parts[1], s), false)
	}
	inside := list(rawGrantParts(g)...)
	for _, s := range append(someTerms(), inside, parts[1], rawTicket(someTicket(), someReplyKey), rawAuth(someAuth(), someReplyKey), impl.Seal(someReplyKey, "a\x00"), impl.Seal(someReplyKey, impl.Seal(someReplyKey, inside)), list(parts[2]),
		impl.Seal(someReplyKey, list(rawGrantParts(g)[:2]...)), impl.Seal(someReplyKey, list(append(rawGrantParts(g), "l\x00")...))) {
		check("no Grant", s)
	}
	for _, k := range keysAround() {
		if k >= 1 && k <= 1000000 && k != someReplyKey {
			check("a Grant with another key", rawGrant(g, k))
		}
	}
	for _, spoil := range []func(g *impl.Grant){
		func(g *impl.Grant) { g.Nonce++ }, func(g *impl.Grant) { g.Nonce-- }, func(g *impl.Grant) { g.Nonce = 0 }, func(g *impl.Grant) { g.Service = 3 }, func(g *impl.Grant) { g.Service = 9 },
		func(g *impl.Grant) { g.Service = 13 }, func(g *impl.Grant) { g.Rest.Servers = 8 }, func(g *impl.Grant) { g.Rest.Ops = 256 }, func(g *impl.Grant) { g.Rest.End = 100001 },
	} {
		other := g
		spoil(&other)
		check("another Grant", rawGrant(other, someReplyKey))
	}
	for _, service := range []int{0, 1, 2, 10, 11, 12} {
		for _, k := range []int{1, 21, 101, 1000000} {
			for _, r := range []impl.Rest{rest(0, 0, 0), rest(7, 255, 100000), rest(1, 128, 3)} {
				other := impl.Grant{Key: k, Service: service, Nonce: someNonce, Rest: r}
				x := checkTake(t, "each Grant", 5, 0, someReplyKey, someNonce, replyOf(someNonce, "a\x00", other, someReplyKey), true)
				if x != (impl.Cred{Owner: 5, Client: 0, Service: service, Key: k, Rest: r, Ticket: "a\x00"}) {
					t.Errorf("of %+v comes %+v", other, x)
				}
			}
		}
	}
}

func TestRepliesThatAreChanged(t *testing.T) {
	whole := list(someReplyParts()...)
	check := func(term string) {
		_, want := plainTake(2, 1, someReplyKey, someNonce, term)
		checkTake(t, "changed", 2, 1, someReplyKey, someNonce, term, want)
	}
	for i := range whole {
		check(whole[:i])
		check(whole[:i] + whole[i+1:])
		for _, b := range []byte{0, 1, 2, 3, 4, 7, 11, 102, 104, 'a', 'k', 'l', 's', 0x80, 0xff, whole[i] + 1, whole[i] - 1} {
			check(whole[:i] + string([]byte{b}) + whole[i+1:])
			check(whole[:i] + string([]byte{b}) + whole[i:])
		}
	}
	r := rand.New(rand.NewSource(91))
	for range 3000 {
		check(list(impl.Nums([]int{2 + r.Intn(3), someNonce + r.Intn(2)}), anyTerm(r, 3), anyTerm(r, 3)))
	}
}

func TestAnyReply(t *testing.T) {
	r := rand.New(rand.NewSource(92))
	taken := 0
	for i := range 20000 {
		wrong := []int{0, 0, 12}[i%3]
		g := impl.Grant{Key: numberNear(r, 1, 1000000, wrong), Service: anyReceiver(r, wrong), Nonce: numberNear(r, 0, 1000000, wrong), Rest: anyRest(r, wrong)}
		owner, client, k := numberNear(r, 0, 5, wrong), numberNear(r, 0, 5, wrong), numberNear(r, 1, 1000000, wrong)
		said, opened := g.Nonce, k
		if wrong > 0 && r.Intn(wrong) == 0 {
			said, opened = r.Intn(1000), 1+r.Intn(1000)
		}
		term := replyOf(g.Nonce, anyTerm(r, 3), g, k)
		_, want := plainTake(owner, client, opened, said, term)
		checkTake(t, "any", owner, client, opened, said, term, want)
		if want {
			taken++
		}
	}
	if taken < 5000 || taken > 19000 {
		t.Error(taken)
	}
}

func TestApplyReq(t *testing.T) {
	x, a := someCred(), auth(1, 17, 8)
	for _, ticket := range append(someTerms(), x.Ticket) {
		x.Ticket = ticket
		if got := checkApply(t, "a Cred", x, a, 3); got != "l\x03"+"l\x03a\x01\x04a\x01\x02a\x01\x03"+ticket+"s\x6al\x04a\x01\x07a\x01\x01a\x01\x11a\x01\x08" {
			t.Errorf("%q", got)
		}
	}
	for _, service := range []int{0, 1, 2, 10, 11, 12} {
		x.Service = service
		parts, _ := impl.Parts(checkApply(t, "each Service", x, a, 3))
		if len(parts) != 3 || parts[0] != impl.Nums([]int{4, service, 3}) {
			t.Errorf("%d: %q", service, parts)
		}
	}
	// Whose Auth it is is asked by who serves, not here.
	for client := range 6 {
		if checkApply(t, "an Auth of each client", x, auth(client, 17, 8), 3) == "" {
			t.Errorf("none of client %d", client)
		}
	}
	for op, some := range map[int]bool{math.MinInt: false, -2: false, -1: false, 0: true, 1: true, 7: true, 8: true, 255: true, 1000000: true, 1000001: true, impl.MaxVar: true, impl.MaxVar + 1: false, math.MaxInt: false} {
		if got := checkApply(t, "an op", x, a, op); (got != "") != some {
			t.Errorf("op %d: %q", op, got)
		}
	}
	for _, wrong := range wrongAuths() {
		if got := checkApply(t, "an Auth that is not right", x, wrong, 3); got != "" {
			t.Errorf("%+v: %q", wrong, got)
		}
	}
	for _, edge := range []impl.Auth{auth(0, 0, 0), auth(5, 100000, 1000000)} {
		if checkApply(t, "an Auth at its edges", x, edge, 3) == "" {
			t.Errorf("%+v", edge)
		}
	}
}

func TestApplyReqOfAWrongCred(t *testing.T) {
	for i, spoil := range []func(x *impl.Cred){
		func(x *impl.Cred) { *x = impl.Cred{} }, func(x *impl.Cred) { x.Owner = -1 }, func(x *impl.Cred) { x.Owner = 6 }, func(x *impl.Cred) { x.Client = -1 }, func(x *impl.Cred) { x.Client = 6 },
		func(x *impl.Cred) { x.Service = -1 }, func(x *impl.Cred) { x.Service = 3 }, func(x *impl.Cred) { x.Service = 9 }, func(x *impl.Cred) { x.Service = 13 },
		func(x *impl.Cred) { x.Key = 0 }, func(x *impl.Cred) { x.Key = 1000001 }, func(x *impl.Cred) { x.Rest.Servers = 8 }, func(x *impl.Cred) { x.Rest.Ops = -1 }, func(x *impl.Cred) { x.Rest.End = 100001 },
		func(x *impl.Cred) { x.Ticket = "" }, func(x *impl.Cred) { x.Ticket = "x" }, func(x *impl.Cred) { x.Ticket += "a\x00" }, func(x *impl.Cred) { x.Ticket = x.Ticket[1:] },
		func(x *impl.Cred) { x.Ticket = "a\x00a\x00" }, func(x *impl.Cred) { x.Ticket = "l\x01" },
	} {
		x := someCred()
		spoil(&x)
		if got := checkApply(t, "a Cred that is not right", x, auth(1, 17, 8), 3); got != "" {
			t.Errorf("%d: %+v: %q", i, x, got)
		}
	}
}

func TestApplyReqThatIsTooLongOrTooDeep(t *testing.T) {
	x, a := someCred(), auth(1, 17, 8)
	x.Ticket = "a\x00"
	around := len(impl.ApplyReq(x, a, 3)) - 2
	for more := -3; more <= 3; more++ {
		x.Ticket = strings.Replace(listOfBytes(938-around+more), "l\x0ca\x24"+strings.Repeat("x", 36), "l\x0b", 1)
		if got := checkApply(t, "so long", x, a, 3); (got != "") != (more <= 0) || more == 0 && len(got) != 900 {
			t.Errorf("%d more: %d bytes", more, len(got))
		}
	}
	for depth := 1; depth <= 9; depth++ {
		for _, deep := range []string{sealedTimes("a\x00", depth-1), listedTimes("k\x01", depth-1)} {
			x.Ticket = deep
			if got := checkApply(t, "so deep", x, a, 3); (got != "") != (depth <= 7) {
				t.Errorf("depth %d: %q", depth, got)
			}
		}
	}
	// An op of one more byte makes it no term.
	x.Ticket = strings.Replace(listOfBytes(938-around), "l\x0ca\x24"+strings.Repeat("x", 36), "l\x0b", 1)
	if checkApply(t, "the greatest short op", x, a, 127) == "" || checkApply(t, "the least long op", x, a, 128) != "" {
		t.Error("an op of one more byte")
	}
}

func TestServe(t *testing.T) {
	x := someServing()
	h, taken := x.check(t, "all is right", impl.SvOk)
	want := impl.Accept{Server: 1, Client: 2, Key: 104, Op: 3, Now: 40, Auth: auth(2, 38, 9), Rest: rest(6, 11, 60), Path: []int{0, 2}, Via: []int{2, 1, 0}, Leaks: 0, Ticket: rawTicket(x.x, 12)}
	if !sameAccept(taken, want) {
		t.Errorf("%+v, not %+v", taken, want)
	}
	if !sameCache(h, cache(7, auth(5, 41, 6), auth(2, 35, 9), auth(2, 38, 9))) {
		t.Errorf("%+v", h)
	}
	x.h = h
	x.check(t, "the same again", impl.SvCache+impl.ClReplay)
	x.a.Seq = 10
	if h, _ := x.check(t, "another Seq", impl.SvOk); !sameCache(h, cache(7, auth(5, 41, 6), auth(2, 35, 9), auth(2, 38, 9), auth(2, 38, 10))) {
		t.Errorf("%+v", h)
	}
}

func TestServeEachServiceClientAndOp(t *testing.T) {
	for s := range 3 {
		for client := range 6 {
			for op := range 8 {
				x := someServing()
				x.s, x.head, x.x.Service, x.ticketKey = s, []int{4, s, op}, s, 11+s
				x.x.Client, x.a.Client, x.x.Rest = client, client, rest(1<<s, 1<<op, 40)
				x.x.Path, x.x.Via = nil, nil
				_, taken := x.check(t, "each one", impl.SvOk)
				if taken.Server != s || taken.Client != client || taken.Op != op || taken.Rest != x.x.Rest || taken.Auth != x.a || len(taken.Path) != 0 || len(taken.Via) != 0 {
					t.Errorf("%+v", taken)
				}
				// Where they are does not count here.
				x.c.ServiceRealm, x.c.UserRealm, x.c.Links, x.c.Proxy = []int{2, 2, 2}, []int{0, 0, 0}, nil, nil
				x.check(t, "elsewhere", impl.SvOk)
			}
		}
	}
}

func TestServeWhatIsFullyWritten(t *testing.T) {
	x := someServing()
	x.x.Key, x.authKey, x.x.Path, x.x.Via = 1000000, 1000000, []int{2, 1, 0, 0, 1, 2}, []int{0, 0, 2, 1}
	x.x.Rest, x.now, x.a, x.h = rest(7, 255, 100000), 100000, auth(2, 99995, 1000000), impl.NewCache()
	h, taken := x.check(t, "the greatest", impl.SvOk)
	if !sameCache(h, cache(-1, x.a)) || taken.Key != 1000000 || !slices.Equal(taken.Path, x.x.Path) || !slices.Equal(taken.Via, x.x.Via) {
		t.Errorf("%+v, %+v", h, taken)
	}
	x.x.Path = append(x.x.Path, 0)
	x.check(t, "a Path of one more", impl.SvBad)
	x.x.Path, x.x.Via = x.x.Path[:6], append(x.x.Via, 0)
	x.check(t, "a Via of one more", impl.SvBad)
}

func wrongCaches() []impl.Cache {
	return []impl.Cache{
		cache(-2), cache(200001), cache(math.MinInt), cache(math.MaxInt), cache(0, authsAt(1, 2, 3, 4, 5, 6, 7)...), cache(0, auth(1, 2, 3), auth(1, 2, 3)), cache(0, auth(6, 2, 3)), cache(-2, authsAt(40, 41)...),
		cache(7, auth(5, 41, 6), auth(0, -1, 8)), cache(7, auth(5, 41, 1000001)),
	}
}

func TestServeOfWrongArguments(t *testing.T) {
	for _, wrong := range wrongConfigs() {
		x := someServing()
		x.c = wrong
		if h, _ := x.check(t, "a Config that is not right", impl.SvBad); !sameCache(h, someServing().h) {
			t.Errorf("%+v", h)
		}
	}
	for _, wrong := range wrongCaches() {
		x := someServing()
		x.h = wrong
		if h, _ := x.check(t, "a Cache that is not right", impl.SvBad); h.Quiet != 0 || len(h.Seen) != 0 {
			t.Errorf("of %+v comes %+v", wrong, h)
		}
		x.c = impl.Config{}
		x.check(t, "nor the Config", impl.SvBad)
		x.c, x.s = centreConfig(), 3
		x.check(t, "nor the service", impl.SvBad)
		x.s, x.now = 1, -1
		x.check(t, "nor the time", impl.SvBad)
		x.now = 40
		x.checkReq(t, "nor the request", "x", impl.SvBad)
	}
	for _, s := range numbersAround {
		x := someServing()
		x.s = s
		x.check(t, "a service", map[bool]int{true: impl.SvOk, false: impl.SvBad}[s == 1])
		if s > 2 && s <= impl.MaxVar {
			x.head[1] = s
			x.check(t, "a service that there is not", impl.SvBad)
		}
	}
	// A centre is no service, whoever's key its ticket is sealed with.
	for r := range 3 {
		for _, k := range []int{11 + r, 21 + r} {
			x := someServing()
			x.s, x.head, x.x.Service, x.ticketKey = 10+r, []int{4, 10 + r, 3}, 10+r, k
			x.check(t, "a centre", impl.SvBad)
		}
	}
}

func TestServeAtEachTime(t *testing.T) {
	for now, code := range map[int]int{math.MinInt: 1, -100: 1, -1: 1, 0: 0, 1: 0, 99999: 0, 100000: 0, 100001: 1, 100002: 1, math.MaxInt: 1} {
		x := someServing()
		x.now, x.a.Time, x.x.Rest.End, x.h = now, max(0, min(100000, now)), 100000, impl.NewCache()
		_, taken := x.check(t, "a time", code)
		if code == impl.SvOk && taken.Now != now {
			t.Errorf("at %d: %+v", now, taken)
		}
	}
}

func TestRequestsToAServiceThatAreNone(t *testing.T) {
	check := func(what, req string) {
		t.Helper()
		someServing().checkReq(t, what, req, impl.SvBad)
	}
	parts := someServing().parts()
	whole := list(parts...)
	for _, s := range append(someTerms(), "", "x", "l", "l\x03", "l\x00", "l\x03l\x00l\x00l\x00", list("a\x00", "a\x00", "a\x00"), strings.Repeat("l", 901)) {
		check("no request", s)
	}
	for count := range 3 {
		check("too few parts", list(parts[:count]...))
		check("one part left out", list(slices.Delete(slices.Clone(parts), count, count+1)...))
	}
	for place := range 4 {
		for _, s := range append(someTerms(), parts...) {
			check("four parts", list(slices.Insert(slices.Clone(parts), place, s)...))
		}
	}
	swaps(parts, func(l []string) { check("changed places", list(l...)) })
	for _, k := range []int{12, 104} {
		check("sealed", impl.Seal(k, whole))
	}
	check("a list in a list", list(whole))
	check("cut", whole[:len(whole)-1])
	check("more behind", whole+"a\x00")
	check("more ahead", "a\x00"+whole)
	for i := range parts {
		for _, s := range []string{"", "x", "a", "l\x01", "s\x05", "k\x00", "a\x00a\x00"} {
			l := slices.Clone(parts)
			l[i] = s
			check("a part that is no term", "l\x03"+strings.Join(l, ""))
		}
	}
	check("a login", someLogin().req())
	check("an ask", someAsking().req())
	check("a reply", list(someReplyParts()...))
}

func TestFirstPartOfARequestToAService(t *testing.T) {
	x := someServing()
	for _, head := range [][]int{nil, {4}, {4, 1}, {4, 1, 3, 0}, {4, 1, 3, 3}, {1, 3}, {0, 1, 3}, {1, 1, 3}, {2, 1, 3}, {3, 1, 3}, {5, 1, 3}, {132, 1, 3}, {4, 0, 3}, {4, 2, 3}, {4, 3, 3}, {4, 4, 3}, {4, 11, 3}, {4, 12, 3}, {4, 3, 1}, {1, 4, 3}, {3, 1, 4}, {0, 0, 0}, {impl.MaxVar, 1, 3}, {4, impl.MaxVar, 3}} {
		x.head = head
		x.check(t, "another first part", impl.SvBad)
	}
	parts := someServing().parts()
	for _, s := range append(someTerms(), impl.Num(4), key(4), list(impl.Num(4), impl.Num(1), key(3)), list(key(4), impl.Num(1), impl.Num(3)), list(impl.Num(4), impl.Num(1), "a\x00"), list(impl.Num(4), impl.Num(1), "a\x02\x83\x00"), list(parts[0]), impl.Seal(12, parts[0])) {
		x.checkReq(t, "a first part that is not Nums", list(s, parts[1], parts[2]), impl.SvBad)
	}
	// Of each op that there is all is permitted, and of none that there is not.
	for _, op := range []int{0, 1, 2, 3, 4, 5, 6, 7, 8, 9, 10, 63, 64, 65, 127, 128, 256, 1000000, 1000001, impl.MaxVar} {
		x := someServing()
		x.head[2], x.x.Rest.Ops = op, 255
		_, taken := x.check(t, "an op", map[bool]int{true: impl.SvOk, false: impl.SvBad}[op <= 7])
		if op <= 7 && taken.Op != op {
			t.Errorf("op %d: %+v", op, taken)
		}
	}
	// There is no number below 0 to be written: the Nums of it is no term.
	if req := list(impl.Nums([]int{4, 1, -1}), parts[1], parts[2]); req != "" {
		t.Errorf("%q", req)
	}
	x.checkReq(t, "an op of -1", list(impl.Nums([]int{4, 1, -1}), parts[1], parts[2]), impl.SvBad)
}

// Each ticket with each receiver, sealed with each key, at each service: just one of them is taken.
func TestTicketsThatAServiceIsShown(t *testing.T) {
	for s := range 3 {
		for _, service := range []int{0, 1, 2, 10, 11, 12} {
			for _, k := range keysAround() {
				if k < 1 || k > 1000000 {
					continue
				}
				x := someServing()
				x.s, x.head, x.x.Service, x.ticketKey, x.x.Rest.Servers = s, []int{4, s, 3}, service, k, 7
				x.check(t, "a ticket", map[bool]int{true: impl.SvOk, false: impl.SvBad}[service == s && k == 11+s])
			}
		}
	}
	x := someServing()
	inside := list(rawTicketParts(x.x)...)
	for _, s := range append(someTerms(), inside, key(12), impl.Seal(12, "a\x00"), impl.Seal(12, impl.Seal(12, inside)), impl.Seal(11, impl.Seal(12, inside)), list(impl.Seal(12, inside)), rawGrant(someGrant(), 12), rawAuth(x.a, 12),
		impl.Seal(12, list(append(rawTicketParts(x.x), "l\x00")...)), impl.Seal(12, list(rawTicketParts(x.x)[:4]...))) {
		parts := x.parts()
		parts[1] = s
		x.checkReq(t, "no ticket", list(parts...), impl.SvBad)
	}
	for _, spoil := range []func(y *impl.Ticket){
		func(y *impl.Ticket) { y.Client = 6 }, func(y *impl.Ticket) { y.Service = 3 }, func(y *impl.Ticket) { y.Rest.Servers = 8 }, func(y *impl.Ticket) { y.Rest.Ops = 256 }, func(y *impl.Ticket) { y.Rest.End = 100001 },
		func(y *impl.Ticket) { y.Path = []int{3} }, func(y *impl.Ticket) { y.Via = []int{0, 3} },
	} {
		x := someServing()
		spoil(&x.x)
		x.check(t, "a Ticket that is not right", impl.SvBad)
		x.a.Client = x.x.Client
		x.check(t, "a Ticket that is not right, and its client", impl.SvBad)
	}
}

func TestAuthsThatAServiceIsShown(t *testing.T) {
	for client := range 6 {
		for other := range 6 {
			x := someServing()
			x.x.Client, x.a.Client = client, other
			x.check(t, "an Auth of that client", map[bool]int{true: impl.SvOk, false: impl.SvBad}[client == other])
		}
	}
	for _, k := range keysAround() {
		x := someServing()
		x.authKey = k
		if k >= 1 && k <= 1000000 {
			x.check(t, "an Auth with a key", map[bool]int{true: impl.SvOk, false: impl.SvBad}[k == 104])
		}
	}
	for _, spoil := range []func(a *impl.Auth){func(a *impl.Auth) { a.Client = 6 }, func(a *impl.Auth) { a.Time = 100001 }, func(a *impl.Auth) { a.Seq = 1000001 }} {
		x := someServing()
		spoil(&x.a)
		x.check(t, "an Auth that is not right", impl.SvBad)
	}
	x := someServing()
	for _, s := range append(someTerms(), key(104), impl.Nums([]int{7, 2, 38, 9}), impl.Seal(104, "a\x00"), impl.Seal(104, impl.Nums([]int{8, 2, 38, 9})), impl.Seal(104, impl.Nums([]int{7, 2, 38})), impl.Seal(104, impl.Nums([]int{7, 2, 38, 9, 0})), impl.Seal(104, impl.Nums([]int{8, 38})),
		impl.Seal(104, rawAuth(x.a, 104)), list(rawAuth(x.a, 104)), rawTicket(x.x, 104), rawTicket(x.x, 12)) {
		parts := x.parts()
		parts[2] = s
		x.checkReq(t, "no Auth", list(parts...), impl.SvBad)
	}
	x.x.Key, x.authKey = 12, 12
	x.check(t, "the service's own key in the ticket", impl.SvOk)
}

func TestServeWhatIsPermitted(t *testing.T) {
	for s := range 3 {
		for servers := range 8 {
			for op := range 8 {
				for _, ops := range []int{0, 1 << op, 255 - 1<<op, 255, 1, 128} {
					for away := -1; away <= 1; away++ {
						x := someServing()
						x.s, x.head, x.x.Service, x.ticketKey = s, []int{4, s, op}, s, 11+s
						x.x.Rest = rest(servers, ops, 40-away)
						code := impl.SvOk
						if servers>>s&1 == 0 || ops>>op&1 == 0 || away > 0 {
							code = impl.SvDenied
						}
						x.check(t, "a Rest", code)
					}
				}
			}
		}
	}
	for _, end := range []int{0, 1, 39, 40, 41, 99999, 100000} {
		for now := max(0, end-2); now <= min(100000, end+2); now++ {
			x := someServing()
			x.h, x.now, x.a.Time, x.x.Rest.End = impl.NewCache(), now, now, end
			x.check(t, "at its End", map[bool]int{true: impl.SvOk, false: impl.SvDenied}[now <= end])
			// It is the time of the service that counts, not that of the Auth.
			x.a.Time = min(100000, now+5)
			x.check(t, "an Auth from later on", map[bool]int{true: impl.SvOk, false: impl.SvDenied}[now <= end])
			x.a.Time = max(0, now-5)
			x.check(t, "an Auth from before", map[bool]int{true: impl.SvOk, false: impl.SvDenied}[now <= end])
		}
	}
}

func TestServeAsFarAsSkewSays(t *testing.T) {
	for _, skew := range []int{0, 1, 5, 20} {
		for _, now := range []int{0, 1, 20, 40, 99980, 100000} {
			for away := -skew - 2; away <= skew+2; away++ {
				if now+away < 0 {
					continue
				}
				x := someServing()
				x.c.Skew, x.now, x.h, x.a.Time, x.x.Rest.End = skew, now, impl.NewCache(), now+away, 100000
				code := impl.SvOk
				switch {
				case now+away > 100000:
					code = impl.SvBad
				case away < -skew || away > skew:
					code = impl.SvCache + impl.ClSkew
				}
				x.check(t, "so far away", code)
			}
		}
	}
}

func TestServeInTheQuiet(t *testing.T) {
	for quiet, code := range map[int]int{-1: 0, 0: 0, 38: 0, 39: 0, 40: 13, 41: 13, 50: 13, 200000: 13} {
		for _, time := range []int{35, 38, 40, 45} {
			x := someServing()
			x.h.Quiet, x.a.Time, x.a.Seq = quiet, time, 77
			h, _ := x.check(t, "a Quiet", code)
			if h.Quiet != quiet {
				t.Errorf("Quiet %d is %d behind it", quiet, h.Quiet)
			}
		}
	}
	// Behind a Restart nothing is taken until all that was taken ahead of it is too old.
	x := someServing()
	for now := 40; now <= 60; now++ {
		x.h, x.now, x.a.Time = impl.Restart(40, 5), now, now
		x.check(t, "behind a Restart", map[bool]int{true: impl.SvCache + impl.ClQuiet, false: impl.SvOk}[now <= 50])
	}
}

func TestServeWhatWasSeen(t *testing.T) {
	x := someServing()
	for place := range 6 {
		x.h = cache(-1, authsAt(40, 40, 40, 40, 40, 40)[:5]...)
		x.h.Seen = slices.Insert(x.h.Seen, place, x.a)
		x.check(t, "seen already", impl.SvCache+impl.ClReplay)
		x.h.Seen[place].Seq = 1000
		x.check(t, "full", impl.SvCache+impl.ClFull)
		x.h.Seen[place].Time = 35
		x.check(t, "full, one at its last time", impl.SvCache+impl.ClFull)
		x.h.Seen[place].Time = 34
		h, _ := x.check(t, "one has gone", impl.SvOk)
		if !slices.Equal(h.Seen, append(authsAt(40, 40, 40, 40, 40), x.a)) {
			t.Errorf("%+v", h)
		}
	}
	// An Auth is seen whatever ticket came with it, and whatever it is for.
	x = someServing()
	x.h, _ = x.check(t, "first", impl.SvOk)
	x.x.Key, x.authKey = 105, 105
	x.check(t, "with another key", impl.SvCache+impl.ClReplay)
	x.head[2] = 1
	x.check(t, "for another op", impl.SvCache+impl.ClReplay)
	x.now = 43
	x.check(t, "later", impl.SvCache+impl.ClReplay)
	x.now = 44
	x.check(t, "too late", impl.SvCache+impl.ClSkew)
}

// Reasons are put together, from the last one that the document names to the first one: the first one is answered.
func TestWhyAServiceRefuses(t *testing.T) {
	reasons := []struct {
		code  int
		spoil func(x *serving)
	}{
		{15, func(x *serving) { x.h.Seen = append(x.h.Seen, auth(0, 40, 1), auth(0, 40, 2), auth(0, 40, 3)) }},
		{14, func(x *serving) { x.h.Seen[1] = x.a }},
		{13, func(x *serving) { x.h.Quiet = 50 }},
		{12, func(x *serving) { x.c.Skew = 1 }},
		{2, func(x *serving) { x.x.Rest.End = 39 }},
		{2, func(x *serving) { x.x.Rest.Servers = 5 }},
		{2, func(x *serving) { x.x.Rest.Ops = 247 }},
		{1, func(x *serving) { x.a.Client = 5 }},
		{1, func(x *serving) { x.authKey = 105 }},
		{1, func(x *serving) { x.ticketKey = 11 }},
		{1, func(x *serving) { x.x.Service = 11 }},
		{1, func(x *serving) { x.head[2] = 8 }},
		{1, func(x *serving) { x.head[0] = 2 }},
		{1, func(x *serving) { x.now = 100001 }},
		{1, func(x *serving) { x.s = 3 }},
		{1, func(x *serving) { x.c.Links = pairs(1, 1) }},
		{1, func(x *serving) { x.h.Quiet = -2 }},
	}
	codes := map[int]int{}
	for bits := range 1 << len(reasons) {
		x, want := someServing(), impl.SvOk
		x.h.Seen[1] = auth(1, 36, 5)
		for i, reason := range reasons {
			if bits>>i&1 == 1 {
				reason.spoil(&x)
				want = reason.code
			}
		}
		// The later half is all of one code: some of each will do.
		if bits>>7 != 0 && bits%11 != 0 {
			continue
		}
		before := x.h
		h, _ := x.check(t, "reasons", want)
		if before.Quiet == -2 {
			before = impl.Cache{}
		}
		if want != impl.SvOk && !sameCache(h, before) {
			t.Errorf("reasons %b: behind %+v comes %+v", bits, x.h, h)
		}
		codes[want]++
	}
	if len(codes) != 7 {
		t.Error(codes)
	}
}

// Whoever asks with what was taken, at each later time, is refused by the Cache behind it, and that stays as it is.
func TestWhatAServiceTookIsNotTakenAgain(t *testing.T) {
	for _, skew := range []int{0, 1, 5, 20} {
		for _, now := range []int{0, 1, 40, 99950, 100000} {
			for time := max(0, now-skew); time <= min(100000, now+skew); time++ {
				x := someServing()
				x.c.Skew, x.now, x.a.Time, x.x.Rest.End = skew, now, time, 100000
				x.h = cache(-1, authsAt(max(0, now-skew), now)...)
				behind, _ := x.check(t, "first", impl.SvOk)
				for later := now; later <= min(100000, now+2*skew+3); later++ {
					for _, h := range []impl.Cache{behind, impl.Restart(now, skew), impl.Restart(later, skew)} {
						got, taken, code := impl.Serve(x.c, x.s, later, h, x.req())
						if code == impl.SvOk || !sameCache(got, h) || !sameAccept(taken, impl.Accept{}) {
							t.Fatalf("skew %d: taken at %d, and at %d: %+v, %+v, %d", skew, now, later, got, taken, code)
						}
					}
				}
			}
		}
	}
}

// As time goes on, requests come again and again, and none is taken twice.
func TestNothingIsServedTwiceAsTimeGoesOn(t *testing.T) {
	r := rand.New(rand.NewSource(93))
	codes := map[int]int{}
	for range 300 {
		x := someServing()
		x.c.Skew, x.now, x.h = r.Intn(6), []int{0, 20, 40, 99970}[r.Intn(4)], impl.NewCache()
		x.x.Rest.End = min(100000, x.now+20+r.Intn(20))
		sent, took := []string{}, map[string]int{}
		for range 60 {
			if r.Intn(5) == 0 {
				x.now = min(100000, x.now+r.Intn(4))
			}
			if r.Intn(50) == 0 {
				x.h = impl.Restart(x.now, x.c.Skew)
			}
			x.a, x.head[2] = auth(2, max(0, min(100000, x.now-x.c.Skew-1+r.Intn(2*x.c.Skew+3))), r.Intn(5)), []int{0, 1, 3, 3, 3, 4}[r.Intn(6)]
			sent = append(sent, x.req())
			req := sent[r.Intn(len(sent))]
			h, _, code := checkServe(t, "as time goes on", x.c, x.s, x.now, x.h, req)
			if code == impl.SvOk {
				took[req]++
			}
			if took[req] > 1 {
				t.Fatalf("skew %d: %q is taken again at %d", x.c.Skew, req, x.now)
			}
			codes[code]++
			x.h = h
		}
	}
	for _, code := range []int{0, 2, 12, 13, 14, 15} {
		if codes[code] < 100 {
			t.Errorf("too few of code %d: %v", code, codes)
		}
	}
}

// anyServing is mostly one that is taken: it is spoilt as often as wrong says (of so many ones).
func anyServing(r *rand.Rand, wrong int) serving {
	spoilt := func() bool { return wrong > 0 && r.Intn(wrong) == 0 }
	s, now := r.Intn(3), []int{0, 30, 99999, numberNear(r, 0, 100000, wrong)}[r.Intn(4)]
	x := serving{c: anyCentreConfig(r, wrong), s: s, now: now, head: []int{4, s, r.Intn(8)}, x: anyTicket(r, 0), ticketKey: 11 + s}
	x.x.Service, x.x.Rest.End = s, max(0, min(100000, now-1+r.Intn(60)))
	if r.Intn(4) > 0 {
		x.x.Rest.Servers, x.x.Rest.Ops = 7, 255
	}
	skew := max(0, x.c.Skew)
	x.a, x.authKey = auth(x.x.Client, max(0, min(100000, now-skew+r.Intn(2*skew+1))), r.Intn(5)), x.x.Key
	x.h = cache([]int{-1, -1, -1, now - 1, now, numberNear(r, -1, 200000, wrong)}[r.Intn(6)])
	for range r.Intn(9) {
		if a := auth(r.Intn(6), max(0, min(100000, now-skew-1+r.Intn(skew+3))), r.Intn(3)); len(x.h.Seen) < 6 && !slices.Contains(x.h.Seen, a) {
			x.h.Seen = append(x.h.Seen, a)
		}
	}
	if len(x.h.Seen) > 0 && r.Intn(8) == 0 {
		x.a = x.h.Seen[r.Intn(len(x.h.Seen))]
		x.x.Client = x.a.Client
	}
	for _, spoil := range []func(){
		func() { x.head[r.Intn(3)]++ }, func() { x.x.Service = anyReceiver(r, 0) }, func() { x.ticketKey = 11 + r.Intn(3) }, func() { x.a.Client = r.Intn(6) }, func() { x.authKey = 102 },
		func() { x.a.Time = max(0, now+[]int{-1, 1}[r.Intn(2)]*(skew+r.Intn(3))) }, func() { x.h.Seen = append(x.h.Seen, x.a) }, func() { x.s = numberNear(r, 0, 2, 2) },
	} {
		if spoilt() {
			spoil()
		}
	}
	return x
}

func TestAnyRequestToAService(t *testing.T) {
	r := rand.New(rand.NewSource(94))
	codes := map[int]int{}
	for i := range 40000 {
		x := anyServing(r, []int{0, 0, 12}[i%3])
		_, _, code := checkServe(t, "any", x.c, x.s, x.now, x.h, x.req())
		codes[code]++
	}
	for _, code := range []int{0, 1, 2, 12, 13, 14, 15} {
		if codes[code] < 300 {
			t.Errorf("too few of code %d: %v", code, codes)
		}
	}
}

// A request with a byte changed, left out or put in is answered as plain words say, and nothing panics.
func TestRequestsToAServiceThatAreChanged(t *testing.T) {
	x := someServing()
	req := x.req()
	check := func(req string) { checkServe(t, "changed", x.c, x.s, x.now, x.h, req) }
	for i := range req {
		check(req[:i])
		check(req[:i] + req[i+1:])
		for _, b := range []byte{0, 1, 2, 3, 4, 5, 7, 8, 11, 12, 13, 104, 'a', 'k', 'l', 's', 0x80, 0xff, req[i] + 1, req[i] - 1} {
			check(req[:i] + string([]byte{b}) + req[i+1:])
			check(req[:i] + string([]byte{b}) + req[i:])
		}
	}
	r := rand.New(rand.NewSource(95))
	for range 3000 {
		check(list(impl.Nums([]int{4, r.Intn(3), r.Intn(9)}), anyTerm(r, 3), anyTerm(r, 3)))
	}
}

// A user logs in, goes from realm to realm, and is served; the service asks in its name, and is served, too.
func TestFromALoginToAService(t *testing.T) {
	c := centreConfig()
	c.Proxy, c.Links, c.ServiceRealm = pairs(0, 1), pairs(0, 1, 1, 2), []int{2, 2, 0}
	fresh, now := 101, 40
	next := func() int { fresh++; return fresh }
	given := func(realm int, req string, owner, client, key, nonce int) impl.Cred {
		t.Helper()
		got := checkCentre(t, "on the way", c, realm, now, next(), req)
		return checkTake(t, "on the way", owner, client, key, nonce, got.Term, got.Code == impl.CeOk)
	}
	user := given(0, impl.LoginReq(0, now, 500), 0, 0, 1, 500)
	for realm := range 3 {
		req := impl.AskReq(user.Ticket, user.Key, auth(0, now, realm), 0, rest(3, 12, 80), 501+realm, "")
		user = given(realm, req, 0, 0, user.Key, 501+realm)
	}
	if user.Service != 0 || user.Rest != rest(3, 12, 80) {
		t.Fatalf("%+v", user)
	}
	req := impl.ApplyReq(user, auth(0, now, 9), 2)
	h, taken, code := checkServe(t, "the user", c, 0, now, impl.NewCache(), req)
	if code != impl.SvOk || taken.Client != 0 || !slices.Equal(taken.Path, []int{0, 1}) || len(taken.Via) != 0 || taken.Ticket != user.Ticket || len(h.Seen) != 1 {
		t.Fatalf("%+v, %d", taken, code)
	}
	service := given(2, impl.LoginReq(3, now, 600), 3, 3, 11, 600)
	// In whose name the new ticket is, the service knows from what it took.
	named := given(2, impl.AskReq(service.Ticket, service.Key, auth(3, now, 1), 1, rest(7, 255, 90), 601, taken.Ticket), 3, taken.Client, service.Key, 601)
	if named.Owner != 3 || named.Client != 0 || named.Service != 1 || named.Rest != rest(3, 12, 80) {
		t.Fatalf("%+v", named)
	}
	_, taken, code = checkServe(t, "in the user's name", c, 1, now, impl.NewCache(), impl.ApplyReq(named, auth(named.Client, now, 2), 3))
	if code != impl.SvOk || taken.Client != 0 || !slices.Equal(taken.Via, []int{0}) || taken.Rest != rest(3, 12, 80) {
		t.Errorf("%+v, %d", taken, code)
	}
	// Its own name on the Auth is another one's than the ticket's.
	if _, _, code := checkServe(t, "in its own name", c, 1, now, impl.NewCache(), impl.ApplyReq(named, auth(3, now, 2), 3)); code != impl.SvBad {
		t.Error(code)
	}
	if _, _, code := checkServe(t, "an op that was not asked for", c, 1, now, impl.NewCache(), impl.ApplyReq(named, auth(0, now, 2), 4)); code != impl.SvDenied {
		t.Error(code)
	}
}

func TestEndsKeepNothing(t *testing.T) {
	x := someServing()
	firstCache, first := x.check(t, "first", impl.SvOk)
	y := x
	y.a.Seq = 55
	y.check(t, "between", impl.SvOk)
	if h, taken := x.check(t, "again from the same Cache", impl.SvOk); !sameCache(h, firstCache) || !sameAccept(taken, first) {
		t.Errorf("%+v, %+v, then %+v, %+v", firstCache, first, h, taken)
	}
	term := list(someReplyParts()...)
	cred := checkTake(t, "first", 2, 1, someReplyKey, someNonce, term, true)
	if again := checkTake(t, "again", 2, 1, someReplyKey, someNonce, term, true); again != cred {
		t.Errorf("%+v, then %+v", cred, again)
	}
	if checkApply(t, "first", cred, auth(1, 2, 3), 4) != checkApply(t, "again", cred, auth(1, 2, 3), 4) {
		t.Error("two requests of the same")
	}
}
