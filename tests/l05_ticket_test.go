package tests

import (
	"math"
	"math/rand"
	"slices"
	"testing"

	"loop.example/g00769/impl"
)

// What is right and what is read, by plain words: what the tests hold the program's answers against.

func plainPrincipal(n int) bool { return slices.Contains([]int{0, 1, 2, 3, 4, 5}, n) }

func plainReceiver(n int) bool { return slices.Contains([]int{0, 1, 2, 10, 11, 12}, n) }

func plainRight(r impl.Rest) bool {
	_, ok := plainRestOf(r)
	return ok
}

func plainThree(l []int) bool {
	return !slices.ContainsFunc(l, func(n int) bool { return n != 0 && n != 1 && n != 2 })
}

func plainTicketOk(x impl.Ticket) bool {
	return plainPrincipal(x.Client) && plainReceiver(x.Service) && x.Key >= 1 && x.Key <= 1000000 && plainRight(x.Rest) &&
		len(x.Path) <= 6 && plainThree(x.Path) && len(x.Via) <= 4 && plainThree(x.Via)
}

func plainAuthOk(a impl.Auth) bool {
	return plainPrincipal(a.Client) && a.Time >= 0 && a.Time <= 100000 && a.Seq >= 0 && a.Seq <= 1000000
}

func plainGrantOk(g impl.Grant) bool {
	return g.Key >= 1 && g.Key <= 1000000 && plainReceiver(g.Service) && g.Nonce >= 0 && g.Nonce <= 1000000 && plainRight(g.Rest)
}

// plainInside is the term that is sealed with the key; empty where there is none.
func plainInside(s string, key int) string {
	sealed, ok := plainTermOf(s)
	if !ok || sealed.kind != 's' || sealed.n != key {
		return ""
	}
	return sealed.parts[0]
}

// plainParts are those of a list of just so many; nil where there is none such.
func plainParts(s string, count int) []string {
	t, _ := plainTermOf(s)
	if t.kind != 'l' || len(t.parts) != count {
		return nil
	}
	return t.parts
}

// plainNums are the numbers of a list; nil where one of its parts is none.
func plainNums(s string) []int {
	t, ok := plainTermOf(s)
	if !ok || t.kind != 'l' {
		return nil
	}
	l := []int{}
	for _, part := range t.parts {
		atom, _ := plainTermOf(part)
		n, used := impl.ReadVar(atom.data)
		if atom.kind != 'a' || used == 0 || used < len(atom.data) {
			return nil
		}
		l = append(l, n)
	}
	return l
}

func plainReadTicket(s string, key int) (impl.Ticket, bool) {
	parts := plainParts(plainInside(s, key), 5)
	if parts == nil {
		return impl.Ticket{}, false
	}
	k, _ := plainTermOf(parts[1])
	who, r, path, via := plainNums(parts[0]), plainNums(parts[2]), plainNums(parts[3]), plainNums(parts[4])
	if len(who) != 2 || k.kind != 'k' || len(r) != 3 || path == nil || via == nil {
		return impl.Ticket{}, false
	}
	x := impl.Ticket{Client: who[0], Service: who[1], Key: k.n, Rest: rest(r[0], r[1], r[2]), Path: path, Via: via}
	if !plainTicketOk(x) {
		return impl.Ticket{}, false
	}
	return x, true
}

func plainReadAuth(s string, key int) (impl.Auth, bool) {
	l := plainNums(plainInside(s, key))
	if len(l) != 4 || l[0] != 7 {
		return impl.Auth{}, false
	}
	a := impl.Auth{Client: l[1], Time: l[2], Seq: l[3]}
	if !plainAuthOk(a) {
		return impl.Auth{}, false
	}
	return a, true
}

func plainReadGrant(s string, key int) (impl.Grant, bool) {
	parts := plainParts(plainInside(s, key), 3)
	if parts == nil {
		return impl.Grant{}, false
	}
	k, _ := plainTermOf(parts[0])
	l, r := plainNums(parts[1]), plainNums(parts[2])
	if len(l) != 2 || k.kind != 'k' || len(r) != 3 {
		return impl.Grant{}, false
	}
	g := impl.Grant{Key: k.n, Service: l[0], Nonce: l[1], Rest: rest(r[0], r[1], r[2])}
	if !plainGrantOk(g) {
		return impl.Grant{}, false
	}
	return g, true
}

func sameTicket(a, b impl.Ticket) bool {
	return a.Client == b.Client && a.Service == b.Service && a.Key == b.Key && a.Rest == b.Rest && slices.Equal(a.Path, b.Path) && slices.Equal(a.Via, b.Via)
}

// checkReads holds what each Read tells of a text against the plain words, says how many take it, and asks that what they tell is shown as it.
func checkReads(t *testing.T, s string, key int) int {
	t.Helper()
	taken := 0
	x, ok := impl.ReadTicket(s, key)
	if want, wanted := plainReadTicket(s, key); ok != wanted || !sameTicket(x, want) {
		t.Fatalf("ReadTicket(%q, %d) = %+v, %v, want %+v, %v", s, key, x, ok, want, wanted)
	}
	if ok {
		taken++
		if impl.ShowTicket(x, key) != s {
			t.Fatalf("ReadTicket(%q, %d) takes what ShowTicket does not make: %+v", s, key, x)
		}
	}
	a, ok := impl.ReadAuth(s, key)
	if want, wanted := plainReadAuth(s, key); ok != wanted || a != want {
		t.Fatalf("ReadAuth(%q, %d) = %+v, %v, want %+v, %v", s, key, a, ok, want, wanted)
	}
	if ok {
		taken++
		if impl.ShowAuth(a, key) != s {
			t.Fatalf("ReadAuth(%q, %d) takes what ShowAuth does not make: %+v", s, key, a)
		}
	}
	g, ok := impl.ReadGrant(s, key)
	if want, wanted := plainReadGrant(s, key); ok != wanted || g != want {
		t.Fatalf("ReadGrant(%q, %d) = %+v, %v, want %+v, %v", s, key, g, ok, want, wanted)
	}
	if ok {
		taken++
		if impl.ShowGrant(g, key) != s {
			t.Fatalf("ReadGrant(%q, %d) takes what ShowGrant does not make: %+v", s, key, g)
		}
	}
	return taken
}

// checkRefused asks that no Read takes the text, which the plain words are asked for, too.
func checkRefused(t *testing.T, what string, s string, key int) {
	t.Helper()
	if checkReads(t, s, key) != 0 {
		t.Errorf("%s: %q is taken with key %d", what, s, key)
	}
}

// The terms as Show would make them if it did not ask whether they are right; empty where that is no term.

func rawTicketParts(x impl.Ticket) []string {
	return []string{impl.Nums([]int{x.Client, x.Service}), key(x.Key), impl.Nums([]int{x.Rest.Servers, x.Rest.Ops, x.Rest.End}), impl.Nums(x.Path), impl.Nums(x.Via)}
}

func rawTicket(x impl.Ticket, k int) string { return impl.Seal(k, list(rawTicketParts(x)...)) }

func rawAuth(a impl.Auth, k int) string {
	return impl.Seal(k, impl.Nums([]int{7, a.Client, a.Time, a.Seq}))
}

func rawGrantParts(g impl.Grant) []string {
	return []string{key(g.Key), impl.Nums([]int{g.Service, g.Nonce}), impl.Nums([]int{g.Rest.Servers, g.Rest.Ops, g.Rest.End})}
}

func rawGrant(g impl.Grant, k int) string { return impl.Seal(k, list(rawGrantParts(g)...)) }

func checkTicket(t *testing.T, x impl.Ticket, k int) {
	t.Helper()
	right := plainTicketOk(x) && k >= 1 && k <= 1000000
	s := impl.ShowTicket(x, k)
	if (s != "") != right || right && s != rawTicket(x, k) {
		t.Fatalf("ShowTicket(%+v, %d) = %q", x, k, s)
	}
	if got, ok := impl.ReadTicket(s, k); ok != right || right && !sameTicket(got, x) || !right && !sameTicket(got, impl.Ticket{}) {
		t.Fatalf("ReadTicket(%q, %d) = %+v, %v, want %+v", s, k, got, ok, x)
	}
	checkReads(t, rawTicket(x, k), k)
}

func checkAuth(t *testing.T, a impl.Auth, k int) {
	t.Helper()
	right := plainAuthOk(a) && k >= 1 && k <= 1000000
	s := impl.ShowAuth(a, k)
	if (s != "") != right || right && s != rawAuth(a, k) {
		t.Fatalf("ShowAuth(%+v, %d) = %q", a, k, s)
	}
	if got, ok := impl.ReadAuth(s, k); ok != right || right && got != a || !right && got != (impl.Auth{}) {
		t.Fatalf("ReadAuth(%q, %d) = %+v, %v, want %+v", s, k, got, ok, a)
	}
	checkReads(t, rawAuth(a, k), k)
}

func checkGrant(t *testing.T, g impl.Grant, k int) {
	t.Helper()
	right := plainGrantOk(g) && k >= 1 && k <= 1000000
	s := impl.ShowGrant(g, k)
	if (s != "") != right || right && s != rawGrant(g, k) {
		t.Fatalf("ShowGrant(%+v, %d) = %q", g, k, s)
	}
	if got, ok := impl.ReadGrant(s, k); ok != right || right && got != g || !right && got != (impl.Grant{}) {
		t.Fatalf("ReadGrant(%q, %d) = %+v, %v, want %+v", s, k, got, ok, g)
	}
	checkReads(t, rawGrant(g, k), k)
}

// Its numbers are unlike wherever they can be, so that two that are taken for each other are told apart.
func someTicket() impl.Ticket {
	return impl.Ticket{Client: 4, Service: 11, Key: 105, Rest: rest(3, 12, 50), Path: []int{0, 2}, Via: []int{2, 1, 0}}
}

func someAuth() impl.Auth { return impl.Auth{Client: 4, Time: 9, Seq: 101} }

func someGrant() impl.Grant {
	return impl.Grant{Key: 102, Service: 10, Nonce: 103, Rest: rest(3, 12, 50)}
}

func TestTicketLimits(t *testing.T) {
	if impl.Users != 3 || impl.Services != 3 || impl.Realms != 3 || impl.MaxPath != 6 || impl.MaxVia != 4 {
		t.Error("a limit is not as the document names it")
	}
}

func TestShownBytes(t *testing.T) {
	for _, c := range []struct {
		what, got, want string
	}{
		{"a ticket", impl.ShowTicket(someTicket(), 22), "s\x16l\x05" + "l\x02a\x01\x04a\x01\x0b" + "k\x69" + "l\x03a\x01\x03a\x01\x0ca\x01\x32" + "l\x02a\x01\x00a\x01\x02" + "l\x03a\x01\x02a\x01\x01a\x01\x00"},
		{"the least ticket", impl.ShowTicket(impl.Ticket{Key: 1}, 1), "s\x01l\x05" + "l\x02a\x01\x00a\x01\x00" + "k\x01" + "l\x03a\x01\x00a\x01\x00a\x01\x00" + "l\x00" + "l\x00"},
		{"the greatest numbers", impl.ShowTicket(impl.Ticket{Client: 5, Service: 12, Key: 1000000, Rest: rest(7, 255, 100000), Path: []int{2}, Via: []int{2}}, 1000000), "s\xc0\x84\x3dl\x05" + "l\x02a\x01\x05a\x01\x0c" + "k\xc0\x84\x3d" + "l\x03a\x01\x07a\x02\xff\x01a\x03\xa0\x8d\x06" + "l\x01a\x01\x02" + "l\x01a\x01\x02"},
		{"an auth", impl.ShowAuth(someAuth(), 105), "s\x69l\x04a\x01\x07a\x01\x04a\x01\x09a\x01\x65"},
		{"the least auth", impl.ShowAuth(impl.Auth{}, 1), "s\x01l\x04a\x01\x07a\x01\x00a\x01\x00a\x01\x00"},
		{"the greatest auth", impl.ShowAuth(impl.Auth{Client: 5, Time: 100000, Seq: 1000000}, 1000000), "s\xc0\x84\x3dl\x04a\x01\x07a\x01\x05a\x03\xa0\x8d\x06a\x03\xc0\x84\x3d"},
		{"a grant", impl.ShowGrant(someGrant(), 2), "s\x02l\x03" + "k\x66" + "l\x02a\x01\x0aa\x01\x67" + "l\x03a\x01\x03a\x01\x0ca\x01\x32"},
		{"the least grant", impl.ShowGrant(impl.Grant{Key: 1}, 1), "s\x01l\x03" + "k\x01" + "l\x02a\x01\x00a\x01\x00" + "l\x03a\x01\x00a\x01\x00a\x01\x00"},
	} {
		if c.got != c.want {
			t.Errorf("%s is shown as %q, want %q", c.what, c.got, c.want)
		}
	}
}

// A field of numbers from its least to its greatest one.
type bounds struct {
	what            string
	least, greatest int
}

func (b bounds) right() []int { return []int{b.least, b.least + 1, b.greatest - 1, b.greatest} }

func (b bounds) wrong() []int {
	return []int{b.least - 1, b.least - 2, b.greatest + 1, b.greatest + 2, b.greatest + 256, impl.MaxVar, impl.MaxVar + 1, math.MaxInt, math.MinInt}
}

// checkBounds asks what is shown with each number at the edges in that field.
func checkBounds(t *testing.T, b bounds, show func(n int) string) {
	t.Helper()
	for _, n := range b.right() {
		if show(n) == "" {
			t.Errorf("%s of %d is not shown", b.what, n)
		}
	}
	for _, n := range b.wrong() {
		if got := show(n); got != "" {
			t.Errorf("%s of %d is shown as %q", b.what, n, got)
		}
	}
}

func TestFieldsOfATicket(t *testing.T) {
	for _, c := range []struct {
		bounds
		set func(x *impl.Ticket, n int)
	}{
		{bounds{"Client", 0, 5}, func(x *impl.Ticket, n int) { x.Client = n }},
		{bounds{"Service of a service", 0, 2}, func(x *impl.Ticket, n int) { x.Service = n }},
		{bounds{"Service of a centre", 10, 12}, func(x *impl.Ticket, n int) { x.Service = n }},
		{bounds{"Key", 1, 1000000}, func(x *impl.Ticket, n int) { x.Key = n }},
		{bounds{"Servers", 0, 7}, func(x *impl.Ticket, n int) { x.Rest.Servers = n }},
		{bounds{"Ops", 0, 255}, func(x *impl.Ticket, n int) { x.Rest.Ops = n }},
		{bounds{"End", 0, 100000}, func(x *impl.Ticket, n int) { x.Rest.End = n }},
		{bounds{"a first of Path", 0, 2}, func(x *impl.Ticket, n int) { x.Path[0] = n }},
		{bounds{"a last of Path", 0, 2}, func(x *impl.Ticket, n int) { x.Path[1] = n }},
		{bounds{"a first of Via", 0, 2}, func(x *impl.Ticket, n int) { x.Via[0] = n }},
		{bounds{"a last of Via", 0, 2}, func(x *impl.Ticket, n int) { x.Via[2] = n }},
	} {
		checkBounds(t, c.bounds, func(n int) string {
			x := someTicket()
			c.set(&x, n)
			checkTicket(t, x, 22)
			return impl.ShowTicket(x, 22)
		})
	}
}

func TestFieldsOfAnAuth(t *testing.T) {
	for _, c := range []struct {
		bounds
		set func(a *impl.Auth, n int)
	}{
		{bounds{"Client", 0, 5}, func(a *impl.Auth, n int) { a.Client = n }},
		{bounds{"Time", 0, 100000}, func(a *impl.Auth, n int) { a.Time = n }},
		{bounds{"Seq", 0, 1000000}, func(a *impl.Auth, n int) { a.Seq = n }},
	} {
		checkBounds(t, c.bounds, func(n int) string {
			a := someAuth()
			c.set(&a, n)
			checkAuth(t, a, 105)
			return impl.ShowAuth(a, 105)
		})
	}
}

func TestFieldsOfAGrant(t *testing.T) {
	for _, c := range []struct {
		bounds
		set func(g *impl.Grant, n int)
	}{
		{bounds{"Key", 1, 1000000}, func(g *impl.Grant, n int) { g.Key = n }},
		{bounds{"Service of a service", 0, 2}, func(g *impl.Grant, n int) { g.Service = n }},
		{bounds{"Service of a centre", 10, 12}, func(g *impl.Grant, n int) { g.Service = n }},
		{bounds{"Nonce", 0, 1000000}, func(g *impl.Grant, n int) { g.Nonce = n }},
		{bounds{"Servers", 0, 7}, func(g *impl.Grant, n int) { g.Rest.Servers = n }},
		{bounds{"Ops", 0, 255}, func(g *impl.Grant, n int) { g.Rest.Ops = n }},
		{bounds{"End", 0, 100000}, func(g *impl.Grant, n int) { g.Rest.End = n }},
	} {
		checkBounds(t, c.bounds, func(n int) string {
			g := someGrant()
			c.set(&g, n)
			checkGrant(t, g, 2)
			return impl.ShowGrant(g, 2)
		})
	}
}

func TestEachNumberAsAReceiverAndAsAClient(t *testing.T) {
	numbers := []int{math.MinInt, math.MinInt + 9, math.MinInt + 10, math.MinInt + 12, math.MaxInt, math.MaxInt - 10, 256, 266, 1 << 32, 1<<32 + 10}
	for n := -30; n <= 60; n++ {
		numbers = append(numbers, n)
	}
	for _, n := range numbers {
		for client := range 6 {
			checkTicket(t, impl.Ticket{Client: client, Service: n, Key: 105}, 22)
		}
		for _, service := range []int{0, 1, 2, 10, 11, 12} {
			checkTicket(t, impl.Ticket{Client: n, Service: service, Key: 105}, 22)
		}
		checkAuth(t, impl.Auth{Client: n, Time: 9, Seq: 101}, 105)
		checkGrant(t, impl.Grant{Key: 102, Service: n, Nonce: 101}, 1)
	}
}

// checkLists asks what is shown with lists of none up to some more than the most, each with a wrong number at each place.
func checkLists(t *testing.T, what string, most int, show func(l []int) string) {
	t.Helper()
	if show(nil) == "" || show([]int{}) == "" {
		t.Errorf("%s of none is not shown", what)
	}
	for size := range 15 {
		l := make([]int, size)
		for i := range l {
			l[i] = (i + size) % 3
		}
		if got := show(l); (got != "") != (size <= most) {
			t.Errorf("%s of %d is shown as %q", what, size, got)
		}
		for i := range l {
			for _, wrong := range []int{-1, 3, 4, 5, 10, impl.MaxVar, impl.MaxVar + 1, math.MaxInt, math.MinInt} {
				changed := slices.Clone(l)
				changed[i] = wrong
				if got := show(changed); got != "" {
					t.Errorf("%s of %v is shown as %q", what, changed, got)
				}
			}
		}
	}
	for _, size := range []int{most + 1, 13, 300, 100000} {
		if got := show(make([]int, size)); got != "" {
			t.Errorf("%s of %d is shown as %q", what, size, got)
		}
	}
}

func TestPathAndVia(t *testing.T) {
	checkLists(t, "Path", 6, func(l []int) string {
		x := someTicket()
		x.Path = l
		checkTicket(t, x, 22)
		return impl.ShowTicket(x, 22)
	})
	checkLists(t, "Via", 4, func(l []int) string {
		x := someTicket()
		x.Via = l
		checkTicket(t, x, 22)
		return impl.ShowTicket(x, 22)
	})
	full := impl.Ticket{Client: 5, Service: 12, Key: 1000000, Rest: rest(7, 255, 100000), Path: []int{2, 2, 2, 2, 2, 2}, Via: []int{2, 2, 2, 2}}
	checkTicket(t, full, 1000000)
	none := impl.Ticket{Key: 1}
	checkTicket(t, none, 1)
	if got, ok := impl.ReadTicket(impl.ShowTicket(none, 1), 1); len(got.Path) != 0 || len(got.Via) != 0 || !ok {
		t.Errorf("without Path and Via: %+v, %v", got, ok)
	}
}

func TestRestsInTicketsAndGrants(t *testing.T) {
	for _, r := range append(wrongRests(), someRests()...) {
		x, g := someTicket(), someGrant()
		x.Rest, g.Rest = r, r
		checkTicket(t, x, 22)
		checkGrant(t, g, 2)
	}
}

func TestKeysThatSeal(t *testing.T) {
	for _, k := range []int{1, 2, 22, 105, 127, 128, 16384, 999999, 1000000} {
		if impl.ShowTicket(someTicket(), k) == "" || impl.ShowAuth(someAuth(), k) == "" || impl.ShowGrant(someGrant(), k) == "" {
			t.Errorf("nothing is shown with key %d", k)
		}
		checkTicket(t, someTicket(), k)
		checkAuth(t, someAuth(), k)
		checkGrant(t, someGrant(), k)
	}
	for _, k := range []int{0, -1, -22, 1000001, impl.MaxVar, impl.MaxVar + 1, math.MaxInt, math.MinInt} {
		if impl.ShowTicket(someTicket(), k) != "" || impl.ShowAuth(someAuth(), k) != "" || impl.ShowGrant(someGrant(), k) != "" {
			t.Errorf("something is shown with key %d", k)
		}
		for _, head := range []string{"s\x00", "s\x01", "s\x16", "s" + impl.Var(k), "s"} {
			for _, parts := range [][]string{rawTicketParts(someTicket()), rawGrantParts(someGrant()), {impl.Num(7), impl.Num(4), impl.Num(9), impl.Num(101)}} {
				checkRefused(t, "a key that is none", head+list(parts...), k)
			}
		}
		checkRefused(t, "nothing", "", k)
	}
}

func TestEachReadWithEachOtherKey(t *testing.T) {
	keys := []int{1, 2, 4, 7, 9, 10, 11, 22, 23, 101, 102, 103, 105, 106, 150, 278, 1000000, 999999, 0, -1, -22, 1000001, 22 + 1<<32, math.MaxInt, math.MinInt}
	for _, k := range keys {
		shown := []string{impl.ShowTicket(someTicket(), k), impl.ShowAuth(someAuth(), k), impl.ShowGrant(someGrant(), k)}
		for _, other := range keys {
			for kind, s := range shown {
				_, ticket := impl.ReadTicket(s, other)
				_, auth := impl.ReadAuth(s, other)
				_, grant := impl.ReadGrant(s, other)
				opens := s != "" && k == other
				if ticket != (opens && kind == 0) || auth != (opens && kind == 1) || grant != (opens && kind == 2) {
					t.Errorf("%q, shown with key %d, read with %d: %v, %v, %v", s, k, other, ticket, auth, grant)
				}
				checkReads(t, s, other)
			}
		}
	}
}

func TestASealedKeyOpensNothing(t *testing.T) {
	x, g := someTicket(), someGrant()
	checkRefused(t, "a ticket with its own Key", impl.ShowTicket(x, 22), x.Key)
	checkRefused(t, "a grant with its own Key", impl.ShowGrant(g, 2), g.Key)
	x.Key, g.Key = 22, 2
	checkTicket(t, x, 22)
	checkGrant(t, g, 2)
}

func TestListsWithOtherParts(t *testing.T) {
	check := func(what string, parts []string) {
		t.Helper()
		s := impl.Seal(22, list(parts...))
		if s == "" {
			t.Fatalf("%s: no term", what)
		}
		checkRefused(t, what, s, 22)
	}
	auth := []string{impl.Num(7), impl.Num(4), impl.Num(9), impl.Num(101)}
	others := []string{impl.Atom(""), impl.Atom("x"), impl.Num(3), key(22), list(), list(list()), impl.Nums([]int{0}), impl.Seal(22, list()), impl.Seal(22, key(105))}
	for _, parts := range [][]string{rawTicketParts(someTicket()), auth, rawGrantParts(someGrant())} {
		if checkReads(t, impl.Seal(22, list(parts...)), 22) != 1 {
			t.Fatal("is not read as it is")
		}
		for i := range parts {
			check("a part too few", slices.Delete(slices.Clone(parts), i, i+1))
			check("a part twice", slices.Insert(slices.Clone(parts), i, parts[i]))
			for _, other := range others {
				check("a part too many", slices.Insert(slices.Clone(parts), i, other))
			}
			sealed, listed := slices.Clone(parts), slices.Clone(parts)
			sealed[i], listed[i] = impl.Seal(22, parts[i]), list(parts[i])
			check("a part sealed once more", sealed)
			check("a part in a list", listed)
		}
		for _, other := range others {
			check("a part more behind", append(slices.Clone(parts), other))
		}
		check("none", nil)
		check("twice over", []string{list(parts...), list(parts...)})
		check("a list in a list", []string{list(parts...)})
	}
	via := rawTicketParts(someTicket())[4]
	swaps(rawTicketParts(someTicket()), func(parts []string) {
		// Path and Via in the other order are another ticket, which is right.
		if parts[3] != via {
			check("two parts of a ticket in the other order", parts)
		}
	})
	swaps(rawGrantParts(someGrant()), func(parts []string) { check("two parts of a grant in the other order", parts) })
	x := someTicket()
	x.Path, x.Via = []int{0, 1, 2, 0, 1}, []int{1}
	parts := rawTicketParts(x)
	parts[3], parts[4] = parts[4], parts[3]
	check("a Via, and a Path that is too long for one, in the other order", parts)
}

// swaps tells the parts with each two of them in the other order.
func swaps(parts []string, say func([]string)) {
	for i := range parts {
		for j := range i {
			l := slices.Clone(parts)
			l[i], l[j] = l[j], l[i]
			say(l)
		}
	}
}

func TestPathAndViaKeepTheirPlaces(t *testing.T) {
	x, y := someTicket(), someTicket()
	y.Path, y.Via = x.Via, x.Path
	parts := rawTicketParts(x)
	parts[3], parts[4] = parts[4], parts[3]
	if got, ok := impl.ReadTicket(impl.Seal(22, list(parts...)), 22); !ok || !sameTicket(got, y) {
		t.Errorf("the other way round: %+v, %v", got, ok)
	}
}

func TestListsWithOtherNumbers(t *testing.T) {
	check := func(what string, l []string) {
		t.Helper()
		s := impl.Seal(22, list(l...))
		if s == "" {
			t.Fatalf("%s: no term", what)
		}
		checkRefused(t, what, s, 22)
	}
	with := func(parts []string, i int, l ...int) []string {
		parts[i] = impl.Nums(l)
		return parts
	}
	ticket := func() []string { return rawTicketParts(someTicket()) }
	grant := func() []string { return rawGrantParts(someGrant()) }
	check("no Client and no Service", with(ticket(), 0))
	check("a Client alone", with(ticket(), 0, 4))
	check("a number more", with(ticket(), 0, 4, 11, 0))
	check("a number more ahead", with(ticket(), 0, 0, 4, 11))
	check("Service ahead of Client", with(ticket(), 0, 11, 4))
	check("no numbers for a Rest", with(ticket(), 2))
	check("a Rest of two", with(ticket(), 2, 3, 12))
	check("a Rest of four", with(ticket(), 2, 3, 12, 50, 0))
	check("a Rest in another order", with(ticket(), 2, 12, 3, 50))
	check("a Rest out of bounds", with(ticket(), 2, 0, 0, 100001))
	check("a Path of seven", with(ticket(), 3, 0, 1, 2, 0, 1, 2, 0))
	check("a Path with a realm that there is not", with(ticket(), 3, 0, 3))
	check("a Via of five", with(ticket(), 4, 0, 1, 2, 0, 1))
	check("a Via with a service as principal", with(ticket(), 4, 3))
	check("a Key as a number", with(ticket(), 1, 105))
	check("no Service and no Nonce", with(grant(), 1))
	check("a Service alone", with(grant(), 1, 10))
	check("a number more in a grant", with(grant(), 1, 10, 103, 0))
	check("Nonce ahead of Service", with(grant(), 1, 103, 10))
	check("no numbers for a grant's Rest", with(grant(), 2))
	check("a grant's Rest of two", with(grant(), 2, 3, 12))
	check("a grant's Rest of four", with(grant(), 2, 3, 12, 50, 0))
	check("a grant's Key as a number", with(grant(), 0, 102))
	for n := range 300 {
		if got, ok := impl.ReadAuth(impl.Seal(22, impl.Nums([]int{n, 4, 9, 101})), 22); ok != (n == 7) || ok && got != someAuth() {
			t.Errorf("an auth that begins with %d: %+v, %v", n, got, ok)
		}
	}
	for _, l := range [][]int{{}, {7}, {7, 4}, {7, 4, 9}, {4, 9, 101}, {7, 4, 9, 101, 0}, {0, 7, 4, 9, 101}, {7, 7, 4, 9, 101}, {4, 7, 9, 101}, {7, 9, 4, 101}, {101, 9, 4, 7}, {0, 0, 0, 0}, {8, 9}, {7, 4, 9, 1000001}, {7, 4, 100001, 101}, {7, 6, 9, 101}} {
		checkRefused(t, "an auth of other numbers", impl.Seal(22, impl.Nums(l)), 22)
	}
}

func TestWhatIsNotSealedOrNoTerm(t *testing.T) {
	insides := []string{list(rawTicketParts(someTicket())...), impl.Nums([]int{7, 4, 9, 101}), list(rawGrantParts(someGrant())...)}
	texts := []string{"", "x", "s", "s\x16", "\x16", impl.Atom(""), impl.Atom("ticket"), key(22), list(), impl.Seal(22, impl.Atom("")), impl.Seal(22, key(22)), impl.Seal(22, list())}
	for _, inside := range insides {
		s := impl.Seal(22, inside)
		texts = append(texts, inside, inside[2:], list(inside), list(s), impl.Atom(inside), impl.Seal(22, s), impl.Seal(23, s), impl.Seal(22, list(s)), impl.Seal(22, list(inside)))
		texts = append(texts, s+s, s+"\x00", " "+s, "s\x96\x00"+inside, s[:len(s)-1], s[1:], s[2:], "s\x96"+inside, "S\x16"+inside, "l\x16"+inside, "k\x16"+inside, "a\x16"+inside)
	}
	// A key that is none has no term, and neither has a number that is written longer than it must.
	texts = append(texts,
		"s\x16l\x05l\x02a\x01\x04a\x01\x0bk\x00l\x03a\x01\x03a\x01\x0ca\x01\x32l\x00l\x00", "s\x16l\x05l\x02a\x01\x04a\x01\x0bk\xc1\x84\x3dl\x03a\x01\x03a\x01\x0ca\x01\x32l\x00l\x00",
		"s\x16l\x05l\x02a\x02\x84\x00a\x01\x0bk\x69l\x03a\x01\x03a\x01\x0ca\x01\x32l\x00l\x00", "s\x16l\x05l\x02a\x01\x04a\x01\x0bk\xe9\x00l\x03a\x01\x03a\x01\x0ca\x01\x32l\x00l\x00",
		"s\x16l\x04a\x02\x87\x00a\x01\x04a\x01\x09a\x01\x65", "s\x16l\x04a\x01\x07a\x01\x04a\x01\x09a\x02\xe5\x00", "s\x16l\x03k\x00l\x02a\x01\x0aa\x01\x67l\x03a\x01\x03a\x01\x0ca\x01\x32")
	for _, s := range texts {
		checkRefused(t, "not what is shown", s, 22)
	}
}

func TestShownTextsThatAreChanged(t *testing.T) {
	least := impl.Ticket{Key: 1}
	for _, s := range []string{impl.ShowTicket(someTicket(), 22), impl.ShowTicket(least, 22), impl.ShowAuth(someAuth(), 22), impl.ShowGrant(someGrant(), 22)} {
		taken := 0
		for i := range len(s) {
			checkRefused(t, "cut short", s[:i], 22)
			checkRefused(t, "without a beginning", s[i+1:], 22)
			for b := range 256 {
				one := string([]byte{byte(b)})
				taken += checkReads(t, s[:i]+one+s[i+1:], 22)
				checkReads(t, s[:i]+one+s[i:], 22)
			}
			checkReads(t, s[:i]+s[i+1:], 22)
		}
		if taken <= len(s) {
			t.Errorf("of %q with another byte none is taken but itself", s)
		}
		for b := range 256 {
			checkRefused(t, "a byte more", s+string([]byte{byte(b)}), 22)
		}
		for _, tail := range tails {
			if tail != "" {
				checkRefused(t, "more behind", s+tail, 22)
			}
		}
	}
}

// Numbers at the edges of a field, and a little beyond them as often as it is asked for.
func numberNear(r *rand.Rand, least, greatest, wrong int) int {
	if wrong > 0 && r.Intn(wrong) == 0 {
		return []int{least - 1, greatest + 1}[r.Intn(2)]
	}
	return []int{least, greatest, least + r.Intn(greatest-least+1)}[r.Intn(3)]
}

func anyRest(r *rand.Rand, wrong int) impl.Rest {
	return rest(numberNear(r, 0, 7, wrong), numberNear(r, 0, 255, wrong), numberNear(r, 0, 100000, wrong))
}

func anyReceiver(r *rand.Rand, wrong int) int {
	return 10*r.Intn(2) + numberNear(r, 0, 2, wrong)
}

func anyTicket(r *rand.Rand, wrong int) impl.Ticket {
	x := impl.Ticket{Client: numberNear(r, 0, 5, wrong), Service: anyReceiver(r, wrong), Key: numberNear(r, 1, 1000000, wrong), Rest: anyRest(r, wrong)}
	for range numberNear(r, 0, 6, wrong) {
		x.Path = append(x.Path, numberNear(r, 0, 2, 2*wrong))
	}
	for range numberNear(r, 0, 4, wrong) {
		x.Via = append(x.Via, numberNear(r, 0, 2, 2*wrong))
	}
	return x
}

func TestEachReadTakesWhatItsShowMakes(t *testing.T) {
	r := rand.New(rand.NewSource(5))
	for i := range 6000 {
		wrong := []int{0, 0, 12}[i%3]
		k := numberNear(r, 1, 1000000, 2*wrong)
		checkTicket(t, anyTicket(r, wrong), k)
		checkAuth(t, impl.Auth{Client: numberNear(r, 0, 5, wrong), Time: numberNear(r, 0, 100000, wrong), Seq: numberNear(r, 0, 1000000, wrong)}, k)
		checkGrant(t, impl.Grant{Key: numberNear(r, 1, 1000000, wrong), Service: anyReceiver(r, wrong), Nonce: numberNear(r, 0, 1000000, wrong), Rest: anyRest(r, wrong)}, k)
	}
}

func TestUnlikeTicketsAreShownUnlike(t *testing.T) {
	lists := [][]int{nil, {0}, {1}, {2}, {0, 0}, {0, 1}, {1, 0}}
	seen := map[string]impl.Ticket{}
	for client := range 6 {
		for _, service := range []int{0, 1, 2, 10, 11, 12} {
			for _, session := range []int{1, 101} {
				for _, path := range lists {
					for _, via := range lists {
						x := impl.Ticket{Client: client, Service: service, Key: session, Rest: rest(client, service, session), Path: path, Via: via}
						s := impl.ShowTicket(x, 22)
						if other, ok := seen[s]; ok || s == "" {
							t.Fatalf("%+v and %+v are both shown as %q", x, other, s)
						}
						seen[s] = x
					}
				}
			}
		}
	}
}

func TestTicketsLeaveWhatTheyAreHanded(t *testing.T) {
	path, via := []int{0, 2, -7, -8}, []int{2, 1, 0, -9}
	x := someTicket()
	x.Path, x.Via = path[:2], via[:3]
	s := impl.ShowTicket(x, 22)
	impl.ShowTicket(x, 0)
	x.Client = 6
	impl.ShowTicket(x, 22)
	if got, ok := impl.ReadTicket(s, 22); !ok || !sameTicket(got, someTicket()) {
		t.Errorf("ReadTicket(%q, 22) = %+v, %v", s, got, ok)
	}
	if !slices.Equal(path, []int{0, 2, -7, -8}) || !slices.Equal(via, []int{2, 1, 0, -9}) {
		t.Errorf("written into: %v, %v", path, via)
	}
}

func TestWhatIsReadOwnsItsPathAndVia(t *testing.T) {
	for _, x := range []impl.Ticket{someTicket(), {Key: 1}, {Key: 1, Path: []int{1, 1, 1, 1, 1, 1}}, {Key: 1, Via: []int{1, 1, 1, 1}}, {Key: 1, Path: []int{1, 2, 0, 1}, Via: []int{1, 2, 0, 1}}} {
		s := impl.ShowTicket(x, 22)
		a, _ := impl.ReadTicket(s, 22)
		b, _ := impl.ReadTicket(s, 22)
		spoil := func(l []int) {
			for i := range l[:cap(l)] {
				l[:cap(l)][i] = 99
			}
			_ = append(l, 98)
		}
		spoil(a.Path)
		if !slices.Equal(a.Via, x.Via) {
			t.Errorf("%+v: Path and Via of one share memory", x)
		}
		spoil(a.Via)
		if !sameTicket(b, x) {
			t.Errorf("%+v: two answers share memory: %+v", x, b)
		}
		if again, ok := impl.ReadTicket(s, 22); !ok || !sameTicket(again, x) {
			t.Errorf("%+v: read again it is %+v", x, again)
		}
	}
}
