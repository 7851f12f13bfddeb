package tests

import (
	"cmp"
	"math"
	"math/rand"
	"reflect"
	"slices"
	"strings"
	"testing"
	"unsafe"

	"loop.example/g00769/impl"
)

// Worlds by plain words: what the tests hold the program's answers against.

func plainWaitOk(x impl.Wait) bool {
	if !x.On {
		return x.Nonce == 0 && x.Key == 0 && x.Client == 0
	}
	return x.Nonce >= 0 && x.Nonce <= 1000000 && x.Key >= 1 && x.Key <= 1000000 && plainPrincipal(x.Client)
}

func plainKnownOk(k impl.Known) bool {
	for i, s := range k.Terms {
		if _, ok := plainTermOf(s); !ok || slices.Contains(k.Terms[i+1:], s) {
			return false
		}
	}
	for i, n := range k.Keys {
		if n < 1 || n > 1000000 || i > 0 && k.Keys[i-1] >= n {
			return false
		}
	}
	return len(k.Terms) <= 60 && len(k.Keys) <= 40
}

// plainWorldOk is what the document says of a right world, word by word.
func plainWorldOk(w impl.World) bool {
	if !plainConfigOk(w.Config) || w.Now < 0 || w.Now > 100000 || w.Fresh < 101 || w.Fresh > 1000000 || !plainKnownOk(w.Known) {
		return false
	}
	if len(w.Net) > 50 || len(w.Waits) != 6 || len(w.Creds) > 30 || len(w.Caches) != 3 || len(w.Log) > 40 || len(w.Accepts) > 40 || len(w.Leaked) > 40 {
		return false
	}
	ok := true
	for _, s := range w.Net {
		_, term := plainTermOf(s)
		ok = ok && term
	}
	for _, x := range w.Waits {
		ok = ok && plainWaitOk(x)
	}
	for _, x := range w.Creds {
		ok = ok && plainCredOk(x)
	}
	for _, x := range w.Caches {
		ok = ok && plainCacheOk(x)
	}
	for _, x := range w.Accepts {
		ok = ok && isThree(x.Server) && plainPrincipal(x.Client) && x.Leaks >= 0 && x.Leaks <= len(w.Leaked) &&
			len(x.Path) <= 6 && plainThree(x.Path) && len(x.Via) <= 4 && plainThree(x.Via)
	}
	return ok
}

// plainSent says whether the term is sent, and sends it then.
func plainSent(w *impl.World, s string) bool {
	if _, ok := plainTermOf(s); !ok || len(w.Net) == 50 {
		return false
	}
	w.Net = append(w.Net, s)
	if !slices.Contains(w.Known.Terms, s) && len(w.Known.Terms) < 60 {
		w.Known.Terms = append(w.Known.Terms, s)
	}
	return true
}

// plainDo is what the document says of WorldDo, word by word.
func plainDo(w impl.World, a impl.Act) (impl.World, int) {
	if !plainWorldOk(w) {
		return impl.World{}, 1
	}
	next := copiedWorld(w)
	var code int
	switch a.Kind {
	case 1:
		code = 3
		if w.Now < 100000 {
			next.Now, code = w.Now+1, 0
		}
	case 2, 3, 6:
		code = plainAsks(&next, a)
	case 4, 7:
		code = plainAnswers(&next, a)
	case 5:
		code = plainReply(&next, a)
	case 8:
		code = plainLeak(&next, a)
	case 9:
		code = 3
		if plainViewOf(w.Known).builds(a.Text) && plainSent(&next, a.Text) {
			code = 0
		}
	case 10:
		code = 2
		if isThree(a.A) {
			next.Caches[a.A], code = impl.Cache{Quiet: w.Now + 2*w.Config.Skew}, 0
		}
	default:
		code = 1
	}
	if code != 0 {
		return copiedWorld(w), code
	}
	return next, 0
}

// plainAsks is of the acts that send something with Fresh in it: a login, an ask, and a request to a service.
func plainAsks(w *impl.World, a impl.Act) int {
	if !plainPrincipal(a.A) {
		return 2
	}
	fresh := w.Fresh
	wait := impl.Wait{On: true, Nonce: fresh}
	var req string
	if a.Kind == 2 {
		wait.Key, wait.Client = plainKeyOf(a.A), a.A
		req = list(impl.Nums([]int{1, a.A, fresh}), impl.Seal(wait.Key, impl.Nums([]int{8, w.Now})))
	} else {
		if a.B < 0 || a.B >= len(w.Creds) || w.Creds[a.B].Owner != a.A {
			return 2
		}
		cred := w.Creds[a.B]
		by := impl.Auth{Client: cred.Client, Time: w.Now, Seq: fresh}
		if a.Kind == 6 {
			if a.C < 0 || a.C > 7 {
				return 2
			}
			if cred.Service >= 10 {
				return 3
			}
			req = plainApply(cred, by, a.C)
			wait = w.Waits[a.A]
		} else {
			wait.Key, wait.Client = cred.Key, cred.Client
			evid := "a\x00"
			if a.D > 0 {
				if a.D > len(w.Accepts) || w.Accepts[a.D-1].Server != a.A-3 {
					return 2
				}
				wait.Client = w.Accepts[a.D-1].Client
				if w.Accepts[a.D-1].Ticket != "" {
					evid = w.Accepts[a.D-1].Ticket
				}
			}
			if _, ok := plainTermOf(evid); !ok || cred.Service < 10 || !plainRight(a.Rest) || a.C < 0 || a.C > impl.MaxVar {
				return 3
			}
			req = "l\x05" + impl.Nums([]int{2, a.C, fresh}) + cred.Ticket + rawAuth(by, cred.Key) + impl.Nums([]int{a.Rest.Servers, a.Rest.Ops, a.Rest.End}) + evid
		}
	}
	if fresh == 1000000 || !plainSent(w, req) {
		return 3
	}
	w.Waits[a.A] = wait
	w.Fresh = fresh + 1
	return 0
}

// plainAnswers is of a centre and of a service, with a message.
func plainAnswers(w *impl.World, a impl.Act) int {
	if !isThree(a.A) || a.B < 0 || a.B >= len(w.Net) {
		return 2
	}
	if a.Kind == 4 {
		r := plainCentre(w.Config, a.A, w.Now, w.Fresh, w.Net[a.B])
		if r.Code != 0 || len(w.Log) == 40 || w.Fresh == 1000000 || !plainSent(w, r.Term) {
			return 3
		}
		w.Log = append(w.Log, r.Event)
		w.Fresh++
		return 0
	}
	h, taken, code := plainServe(w.Config, a.A, w.Now, w.Caches[a.A], w.Net[a.B])
	if code != 0 || len(w.Accepts) == 40 {
		return 3
	}
	taken.Leaks = len(w.Leaked)
	w.Caches[a.A] = h
	w.Accepts = append(w.Accepts, taken)
	return 0
}

func plainReply(w *impl.World, a impl.Act) int {
	if !plainPrincipal(a.A) || a.B < 0 || a.B >= len(w.Net) {
		return 2
	}
	wait := w.Waits[a.A]
	cred, ok := plainTake(a.A, wait.Client, wait.Key, wait.Nonce, w.Net[a.B])
	if !wait.On || !ok || len(w.Creds) == 30 {
		return 3
	}
	w.Creds = append(w.Creds, cred)
	w.Waits[a.A] = impl.Wait{}
	return 0
}

var keysFromTheBeginning = []int{1, 2, 3, 11, 12, 13, 21, 22, 23, 32, 33, 34, 36, 37, 38}

func plainLeak(w *impl.World, a impl.Act) int {
	if !slices.Contains(keysFromTheBeginning, a.A) {
		return 2
	}
	if slices.Contains(w.Leaked, a.A) || len(w.Leaked) == 40 {
		return 3
	}
	w.Leaked = append(w.Leaked, a.A)
	if !slices.Contains(w.Known.Keys, a.A) && len(w.Known.Keys) < 40 {
		w.Known.Keys = append(w.Known.Keys, a.A)
		slices.Sort(w.Known.Keys)
	}
	return 0
}

func copiedConfig(c impl.Config) impl.Config {
	c.UserRealm, c.ServiceRealm = slices.Clone(c.UserRealm), slices.Clone(c.ServiceRealm)
	c.Links, c.Proxy = slices.Clone(c.Links), slices.Clone(c.Proxy)
	return c
}

func copiedWorld(w impl.World) impl.World {
	w.Config = copiedConfig(w.Config)
	w.Net, w.Waits, w.Creds, w.Log, w.Leaked = slices.Clone(w.Net), slices.Clone(w.Waits), slices.Clone(w.Creds), slices.Clone(w.Log), slices.Clone(w.Leaked)
	w.Known = impl.Known{Terms: slices.Clone(w.Known.Terms), Keys: slices.Clone(w.Known.Keys)}
	w.Caches, w.Accepts = slices.Clone(w.Caches), slices.Clone(w.Accepts)
	for i := range w.Caches {
		w.Caches[i].Seen = slices.Clone(w.Caches[i].Seen)
	}
	for i := range w.Accepts {
		w.Accepts[i] = copiedAccept(w.Accepts[i])
	}
	return w
}

func sameConfig(a, b impl.Config) bool {
	return slices.Equal(a.UserRealm, b.UserRealm) && slices.Equal(a.ServiceRealm, b.ServiceRealm) &&
		slices.Equal(a.Links, b.Links) && slices.Equal(a.Proxy, b.Proxy) && a.Skew == b.Skew
}

func sameWorld(a, b impl.World) bool {
	return sameConfig(a.Config, b.Config) && a.Now == b.Now && a.Fresh == b.Fresh && slices.Equal(a.Net, b.Net) &&
		slices.Equal(a.Known.Terms, b.Known.Terms) && slices.Equal(a.Known.Keys, b.Known.Keys) && slices.Equal(a.Waits, b.Waits) && slices.Equal(a.Creds, b.Creds) &&
		slices.EqualFunc(a.Caches, b.Caches, sameCache) && slices.Equal(a.Log, b.Log) && slices.EqualFunc(a.Accepts, b.Accepts, sameAccept) && slices.Equal(a.Leaked, b.Leaked)
}

func begins[T any](some, all []T, same func(a, b T) bool) bool {
	return len(some) <= len(all) && slices.EqualFunc(some, all[:len(some)], same)
}

func alike[T comparable](a, b T) bool { return a == b }

// isBeginning says whether what was sent, done, taken and leaked in one world is a beginning of what it is in another one.
func isBeginning(some, all impl.World) bool {
	return begins(some.Net, all.Net, alike) && begins(some.Log, all.Log, alike) && begins(some.Accepts, all.Accepts, sameAccept) && begins(some.Leaked, all.Leaked, alike)
}

// worldWithRoom is the world with spare room behind each list, and a question whether that and the lists are as they were.
func worldWithRoom(w impl.World) (impl.World, func() bool) {
	var asked []func() bool
	config, configAsItWas := withRoom(w.Config)
	asked = append(asked, configAsItWas)
	w = copiedWorld(w)
	w.Config = config
	for i := range w.Caches {
		w.Caches[i].Seen = roomBehind(&asked, w.Caches[i].Seen, auth(-7, -7, -7))
	}
	for i := range w.Accepts {
		w.Accepts[i].Path, w.Accepts[i].Via = roomBehind(&asked, w.Accepts[i].Path, -7), roomBehind(&asked, w.Accepts[i].Via, -8)
	}
	w.Net, w.Known.Terms, w.Known.Keys = roomBehind(&asked, w.Net, "spare"), roomBehind(&asked, w.Known.Terms, "room"), roomBehind(&asked, w.Known.Keys, -7)
	w.Waits, w.Creds = roomBehind(&asked, w.Waits, impl.Wait{Nonce: -7}), roomBehind(&asked, w.Creds, impl.Cred{Owner: -7})
	w.Caches, w.Log = roomBehind(&asked, w.Caches, cache(-7)), roomBehind(&asked, w.Log, impl.Event{Kind: -7})
	w.Accepts, w.Leaked = roomBehind(&asked, w.Accepts, impl.Accept{Server: -7}), roomBehind(&asked, w.Leaked, -7)
	return w, func() bool {
		for _, asItWas := range asked {
			if !asItWas() {
				return false
			}
		}
		return true
	}
}

func roomBehind[T any](asked *[]func() bool, l []T, spare T) []T {
	all := append(slices.Clone(l), spare, spare)
	before := slices.Clone(all)
	*asked = append(*asked, func() bool { return reflect.DeepEqual(all, before) })
	return all[:len(l)]
}

// memory is where a list with its spare room, or a text, has its bytes.
type memory struct {
	what     string
	from, to uintptr
}

type memories []memory

func (m *memories) add(what string, start unsafe.Pointer, size uintptr) {
	if size > 0 {
		*m = append(*m, memory{what, uintptr(start), uintptr(start) + size})
	}
}

func (m *memories) addTexts(what string, texts ...string) {
	for _, s := range texts {
		m.add(what, unsafe.Pointer(unsafe.StringData(s)), uintptr(len(s)))
	}
}

func addList[T any](m *memories, what string, l []T) {
	var one T
	m.add(what, unsafe.Pointer(unsafe.SliceData(l)), uintptr(cap(l))*unsafe.Sizeof(one))
}

func (m *memories) addConfig(c impl.Config) {
	addList(m, "UserRealm", c.UserRealm)
	addList(m, "ServiceRealm", c.ServiceRealm)
	addList(m, "Links", c.Links)
	addList(m, "Proxy", c.Proxy)
}

func (m *memories) addWorld(w impl.World) {
	m.addConfig(w.Config)
	addList(m, "Net", w.Net)
	m.addTexts("a text of Net", w.Net...)
	addList(m, "Terms", w.Known.Terms)
	m.addTexts("a text of Known", w.Known.Terms...)
	addList(m, "Keys", w.Known.Keys)
	addList(m, "Waits", w.Waits)
	addList(m, "Creds", w.Creds)
	for _, x := range w.Creds {
		m.addTexts("the Ticket of a Cred", x.Ticket)
	}
	addList(m, "Caches", w.Caches)
	for _, x := range w.Caches {
		addList(m, "Seen", x.Seen)
	}
	addList(m, "Log", w.Log)
	addList(m, "Accepts", w.Accepts)
	for _, x := range w.Accepts {
		addList(m, "Path", x.Path)
		addList(m, "Via", x.Via)
		m.addTexts("the Ticket of an Accept", x.Ticket)
	}
	addList(m, "Leaked", w.Leaked)
}

// checkApart asks that what is answered shares no memory with what was handed in, nor within itself.
func checkApart(t *testing.T, what string, answered, handed memories) {
	t.Helper()
	slices.SortFunc(answered, func(a, b memory) int { return cmp.Compare(a.from, b.from) })
	for i := 1; i < len(answered); i++ {
		if answered[i].from < answered[i-1].to {
			t.Fatalf("%s: %s and %s of an answer share memory", what, answered[i-1].what, answered[i].what)
		}
	}
	for _, h := range handed {
		// Ahead of i all ends at or ahead of where h begins.
		i, _ := slices.BinarySearchFunc(answered, h.from+1, func(m memory, from uintptr) int { return cmp.Compare(m.to, from) })
		if i < len(answered) && answered[i].from < h.to {
			t.Fatalf("%s: %s of an answer shares memory with %s that was handed in", what, answered[i].what, h.what)
		}
	}
}

// checkDo holds an answer against plain words; asks that no argument is changed, that the answer is new memory, that a world stays right, and as it is with each code but 0, and that what was sent, done, taken and leaked is a beginning of what it is then.
func checkDo(t *testing.T, what string, w impl.World, a impl.Act) (impl.World, int) {
	t.Helper()
	handed, asItWas := worldWithRoom(w)
	got, code := impl.WorldDo(handed, a)
	want, wanted := plainDo(w, a)
	if code != wanted || !sameWorld(got, want) {
		t.Fatalf("%s: WorldDo(%+v, %+v) = %+v, %d, not %+v, %d", what, w, a, got, code, want, wanted)
	}
	var answered, given memories
	answered.addWorld(got)
	given.addWorld(handed)
	given.addTexts("Text", a.Text)
	checkApart(t, what, answered, given)
	if !asItWas() {
		t.Fatalf("%s: what was handed in was changed by %+v", what, a)
	}
	if plainWorldOk(w) {
		if !impl.WorldOk(got) || !isBeginning(w, got) || code != 0 && !sameWorld(got, w) {
			t.Fatalf("%s: behind %+v, %+v comes %+v, %d", what, w, a, got, code)
		}
	} else if code != 1 || !reflect.DeepEqual(got, impl.World{}) {
		t.Fatalf("%s: of a world that is not right comes %+v, %d", what, got, code)
	}
	return got, code
}

func checkDone(t *testing.T, what string, w impl.World, a impl.Act, want int) impl.World {
	t.Helper()
	got, code := checkDo(t, what, w, a)
	if code != want {
		t.Errorf("%s: the code of %+v is %d, not %d", what, a, code, want)
	}
	return got
}

func checkWorldOk(t *testing.T, what string, w impl.World, want bool) {
	t.Helper()
	handed, asItWas := worldWithRoom(w)
	if got := impl.WorldOk(handed); got != want || got != plainWorldOk(w) {
		t.Errorf("%s: WorldOk(%+v) = %v", what, w, got)
	}
	if !asItWas() {
		t.Errorf("%s: %+v was changed", what, w)
	}
	if !want {
		for kind := range 12 {
			checkDone(t, what, w, impl.Act{Kind: kind}, 1)
		}
	}
}

func act(kind int, numbers ...int) impl.Act {
	numbers = append(numbers, 0, 0, 0, 0)
	return impl.Act{Kind: kind, A: numbers[0], B: numbers[1], C: numbers[2], D: numbers[3]}
}

func asking(p, cred, target, accept int, r impl.Rest) impl.Act {
	a := act(impl.AcAsk, p, cred, target, accept)
	a.Rest = r
	return a
}

func forging(text string) impl.Act { return impl.Act{Kind: impl.AcForge, Text: text} }

// User 0 is served by service 0, and asks it for something again (message 7); this service asks for service 1 in its name (message 8), and is answered (message 9). User 1 waits, too. The key of service 2 is leaked.
func someScript() []impl.Act {
	return []impl.Act{
		act(impl.AcLogin, 0), act(impl.AcCentre, 0, 0), act(impl.AcReply, 0, 1),
		asking(0, 0, 0, 0, rest(7, 15, 90)), act(impl.AcCentre, 0, 2), act(impl.AcReply, 0, 3),
		act(impl.AcApply, 0, 1, 2), act(impl.AcServe, 0, 4),
		act(impl.AcLogin, 3), act(impl.AcCentre, 0, 5), act(impl.AcReply, 3, 6),
		act(impl.AcLeak, 13), act(impl.AcTick), act(impl.AcApply, 0, 1, 3),
		asking(3, 2, 1, 1, rest(6, 7, 40)), act(impl.AcCentre, 0, 8), act(impl.AcLogin, 1),
	}
}

func someWorld(t *testing.T) impl.World {
	t.Helper()
	w, codes := impl.Play(centreConfig(), someScript())
	if slices.Max(codes) != 0 {
		t.Fatalf("the codes are %v", codes)
	}
	return w
}

// What is done in someWorld, by its kind.
func someAct(kind int) impl.Act {
	switch kind {
	case impl.AcLogin:
		return act(kind, 2)
	case impl.AcAsk:
		return asking(3, 2, 1, 1, rest(2, 15, 70))
	case impl.AcCentre:
		return act(kind, 0, 8)
	case impl.AcReply:
		return act(kind, 3, 9)
	case impl.AcApply:
		return act(kind, 0, 1, 1)
	case impl.AcServe:
		return act(kind, 0, 7)
	case impl.AcLeak:
		return act(kind, 2)
	case impl.AcForge:
		return forging(list("a\x02hi", impl.Seal(1, impl.Nums([]int{8, 0}))))
	}
	return act(kind, 0)
}

func TestWorldConstants(t *testing.T) {
	if limits := []int{impl.MaxNet, impl.MaxCreds, impl.MaxLog, impl.MaxActs}; !slices.Equal(limits, []int{50, 30, 40, 120}) {
		t.Error(limits)
	}
	kinds := []int{impl.AcTick, impl.AcLogin, impl.AcAsk, impl.AcCentre, impl.AcReply, impl.AcApply, impl.AcServe, impl.AcLeak, impl.AcForge, impl.AcRestart}
	if !slices.Equal(kinds, numbersFrom(1, 10)) {
		t.Error(kinds)
	}
}

// What the script leads to, number by number.
func TestSomeWorld(t *testing.T) {
	w := someWorld(t)
	if !impl.WorldOk(w) || !sameConfig(w.Config, centreConfig()) || w.Now != 1 || w.Fresh != 112 || len(w.Net) != 11 || !slices.Equal(w.Known.Terms, w.Net) || !slices.Equal(w.Known.Keys, []int{13}) || !slices.Equal(w.Leaked, []int{13}) {
		t.Errorf("%+v", w)
	}
	if !slices.Equal(w.Waits, []impl.Wait{{}, {On: true, Nonce: 111, Key: 2, Client: 1}, {}, {On: true, Nonce: 109, Key: 107, Client: 0}, {}, {}}) {
		t.Errorf("%+v", w.Waits)
	}
	tickets := []string{
		rawTicket(impl.Ticket{Client: 0, Service: 10, Key: 102, Rest: rest(7, 255, 50)}, 21),
		rawTicket(impl.Ticket{Client: 0, Service: 0, Key: 104, Rest: rest(7, 15, 50)}, 11),
		rawTicket(impl.Ticket{Client: 3, Service: 10, Key: 107, Rest: rest(7, 255, 50)}, 21),
	}
	if !slices.Equal(w.Creds, []impl.Cred{
		{Owner: 0, Client: 0, Service: 10, Key: 102, Rest: rest(7, 255, 50), Ticket: tickets[0]},
		{Owner: 0, Client: 0, Service: 0, Key: 104, Rest: rest(7, 15, 50), Ticket: tickets[1]},
		{Owner: 3, Client: 3, Service: 10, Key: 107, Rest: rest(7, 255, 50), Ticket: tickets[2]},
	}) {
		t.Errorf("%+v", w.Creds)
	}
	if !slices.Equal(w.Log, []impl.Event{
		{Kind: 1, Service: 10, Key: 102, Rest: rest(7, 255, 50)},
		{Kind: 2, Service: 0, Key: 104, Parent: 102, Rest: rest(7, 15, 50)},
		{Kind: 1, By: 3, Client: 3, Service: 10, Key: 107, Rest: rest(7, 255, 50)},
		{Kind: 4, By: 3, Service: 1, Key: 110, Parent: 107, Evid: 104, Rest: rest(6, 7, 40)},
	}) {
		t.Errorf("%+v", w.Log)
	}
	if !slices.EqualFunc(w.Caches, []impl.Cache{cache(-1, auth(0, 0, 105)), cache(-1), cache(-1)}, sameCache) {
		t.Errorf("%+v", w.Caches)
	}
	if len(w.Accepts) != 1 || !sameAccept(w.Accepts[0], impl.Accept{Key: 104, Op: 2, Auth: auth(0, 0, 105), Rest: rest(7, 15, 50), Ticket: tickets[1]}) {
		t.Errorf("%+v", w.Accepts)
	}
}

func TestNumbersOfAWorld(t *testing.T) {
	checkWorldOk(t, "all is right", someWorld(t), true)
	for _, c := range []struct {
		bounds
		set func(w *impl.World, n int)
	}{
		{bounds{"Now", 0, 100000}, func(w *impl.World, n int) { w.Now = n }},
		{bounds{"Fresh", 101, 1000000}, func(w *impl.World, n int) { w.Fresh = n }},
		{bounds{"Skew", 0, 20}, func(w *impl.World, n int) { w.Config.Skew = n }},
		{bounds{"a key that is known", 1, 1000000}, func(w *impl.World, n int) { w.Known.Keys = []int{n} }},
		{bounds{"the Nonce of a Wait", 0, 1000000}, func(w *impl.World, n int) { w.Waits[3].Nonce = n }},
		{bounds{"the Key of a Wait", 1, 1000000}, func(w *impl.World, n int) { w.Waits[3].Key = n }},
		{bounds{"the Client of a Wait", 0, 5}, func(w *impl.World, n int) { w.Waits[3].Client = n }},
		{bounds{"the Nonce of the last Wait", 0, 1000000}, func(w *impl.World, n int) { w.Waits[5] = impl.Wait{On: true, Nonce: n, Key: 1} }},
		{bounds{"the Owner of a Cred", 0, 5}, func(w *impl.World, n int) { w.Creds[2].Owner = n }},
		{bounds{"the Client of a Cred", 0, 5}, func(w *impl.World, n int) { w.Creds[0].Client = n }},
		{bounds{"the Service of a Cred", 10, 12}, func(w *impl.World, n int) { w.Creds[1].Service = n }},
		{bounds{"the Key of a Cred", 1, 1000000}, func(w *impl.World, n int) { w.Creds[2].Key = n }},
		{bounds{"the End of a Cred", 0, 100000}, func(w *impl.World, n int) { w.Creds[1].Rest.End = n }},
		{bounds{"Quiet", -1, 200000}, func(w *impl.World, n int) { w.Caches[2].Quiet = n }},
		{bounds{"the Time of what was seen", 0, 100000}, func(w *impl.World, n int) { w.Caches[0].Seen[0].Time = n }},
		{bounds{"Server", 0, 2}, func(w *impl.World, n int) { w.Accepts[0].Server = n }},
		{bounds{"Client", 0, 5}, func(w *impl.World, n int) { w.Accepts[0].Client = n }},
		{bounds{"Leaks", 0, 1}, func(w *impl.World, n int) { w.Accepts[0].Leaks = n }},
		{bounds{"Leaks where more are leaked", 0, 40}, func(w *impl.World, n int) { w.Leaked, w.Accepts[0].Leaks = make([]int, 40), n }},
		{bounds{"how many terms were sent", 0, 50}, func(w *impl.World, n int) { w.Net = slices.Repeat([]string{"a\x00"}, capped(n)) }},
		{bounds{"how many terms are known", 0, 60}, func(w *impl.World, n int) { w.Known.Terms = keyTermsFrom(1, capped(n)) }},
		{bounds{"how many keys are known", 0, 40}, func(w *impl.World, n int) { w.Known.Keys = numbersFrom(1, capped(n)) }},
		{bounds{"how many wait", 6, 6}, func(w *impl.World, n int) { w.Waits = make([]impl.Wait, capped(n)) }},
		{bounds{"how many Creds", 0, 30}, func(w *impl.World, n int) { w.Creds = slices.Repeat(w.Creds[:1], capped(n)) }},
		{bounds{"how many Caches", 3, 3}, func(w *impl.World, n int) { w.Caches = slices.Repeat(w.Caches[1:2], capped(n)) }},
		{bounds{"how many were seen", 0, 6}, func(w *impl.World, n int) { w.Caches[1].Seen = authsAt(numbersFrom(0, capped(n))...) }},
		{bounds{"how much was done", 0, 40}, func(w *impl.World, n int) { w.Log = make([]impl.Event, capped(n)) }},
		{bounds{"how much was taken", 0, 40}, func(w *impl.World, n int) { w.Accepts = slices.Repeat(w.Accepts[:1], capped(n)) }},
		{bounds{"how much is leaked", 0, 40}, func(w *impl.World, n int) { w.Leaked, w.Accepts = make([]int, capped(n)), nil }},
		{bounds{"how long a Path is", 0, 6}, func(w *impl.World, n int) { w.Accepts[0].Path = make([]int, capped(n)) }},
		{bounds{"how long a Via is", 0, 4}, func(w *impl.World, n int) { w.Accepts[0].Via = make([]int, capped(n)) }},
		{bounds{"a realm of a Path", 0, 2}, func(w *impl.World, n int) { w.Accepts[0].Path = []int{0, 1, 2, 2, 1, n} }},
		{bounds{"a service of a Via", 0, 2}, func(w *impl.World, n int) { w.Accepts[0].Via = []int{n, 0, 1, 2} }},
	} {
		check := func(n int, want bool) {
			w := someWorld(t)
			c.set(&w, n)
			checkWorldOk(t, c.what+" "+impl.Dec(n), w, want)
		}
		for _, n := range []int{c.least, c.greatest} {
			check(n, true)
		}
		for _, n := range c.wrong() {
			// There is no list of fewer than none.
			if n >= 0 || capped(n) != 0 || c.least > 0 || !strings.HasPrefix(c.what, "how ") {
				check(n, false)
			}
		}
	}
}

// capped is a number of items that can be made.
func capped(n int) int { return max(0, min(n, 300)) }

func TestTextsOfAWorld(t *testing.T) {
	for _, s := range append(someTerms(), listOfBytes(900), listedTimes("a\x00", 7)) {
		w := someWorld(t)
		w.Net[4], w.Known.Terms, w.Creds[1].Ticket = s, []string{s}, s
		checkWorldOk(t, "a term", w, true)
	}
	for _, s := range []string{"", "x", "a", "k\x00", "a\x00a\x00", "l\x01", "s\x00a\x00", listOfBytes(901), listedTimes("a\x00", 8), someTerms()[8] + "\x00"} {
		for i, put := range []func(w *impl.World){
			func(w *impl.World) { w.Net[0] = s }, func(w *impl.World) { w.Net[4] = s }, func(w *impl.World) { w.Net = append(w.Net, s) }, func(w *impl.World) { w.Net = []string{s} },
			func(w *impl.World) { w.Known.Terms[0] = s }, func(w *impl.World) { w.Known.Terms[10] = s }, func(w *impl.World) { w.Creds[0].Ticket = s }, func(w *impl.World) { w.Creds[2].Ticket = s },
		} {
			w := someWorld(t)
			put(&w)
			checkWorldOk(t, "no term, at place "+impl.Dec(i), w, false)
		}
		// What was taken need not be a term: a world does not ask for that.
		w := someWorld(t)
		w.Accepts[0].Ticket = s
		checkWorldOk(t, "a Ticket of an Accept", w, true)
	}
}

func TestWaitsOfAWorld(t *testing.T) {
	for p := range 6 {
		for _, x := range []struct {
			wait impl.Wait
			want bool
		}{
			{impl.Wait{}, true}, {impl.Wait{Nonce: 1}, false}, {impl.Wait{Key: 1}, false}, {impl.Wait{Client: 1}, false}, {impl.Wait{Nonce: -1}, false}, {impl.Wait{Key: -1}, false}, {impl.Wait{Client: -1}, false},
			{impl.Wait{Nonce: 111, Key: 2, Client: 1}, false}, {impl.Wait{On: true}, false}, {impl.Wait{On: true, Key: 1}, true}, {impl.Wait{On: true, Nonce: 1000000, Key: 1000000, Client: 5}, true},
			{impl.Wait{On: true, Nonce: -1, Key: 1}, false}, {impl.Wait{On: true, Nonce: 1000001, Key: 1}, false}, {impl.Wait{On: true, Key: 1000001}, false}, {impl.Wait{On: true, Key: 1, Client: 6}, false}, {impl.Wait{On: true, Key: 1, Client: -1}, false},
		} {
			w := someWorld(t)
			w.Waits[p] = x.wait
			checkWorldOk(t, "a Wait", w, x.want)
		}
	}
}

func TestPartsOfAWorld(t *testing.T) {
	for _, wrong := range wrongConfigs() {
		w := someWorld(t)
		w.Config = wrong
		checkWorldOk(t, "a Config that is not right", w, false)
	}
	for what, wrong := range wrongKnowns() {
		w := someWorld(t)
		w.Known = wrong
		checkWorldOk(t, what, w, false)
	}
	for _, wrong := range wrongCaches() {
		for s := range 3 {
			w := someWorld(t)
			w.Caches[s] = wrong
			checkWorldOk(t, "a Cache that is not right", w, false)
		}
	}
	for _, wrong := range wrongRests() {
		w := someWorld(t)
		w.Creds[1].Rest = wrong
		checkWorldOk(t, "a Cred that is not right", w, false)
	}
	w := someWorld(t)
	w.Creds = append(w.Creds, impl.Cred{})
	checkWorldOk(t, "the zero Cred", w, false)
	w = someWorld(t)
	for i, a := range []impl.Accept{{Server: 3}, {Client: 6}, {Leaks: 2}, {Path: []int{3}}, {Via: []int{-1}}, {Path: make([]int, 7)}, {Via: make([]int, 5)}} {
		w.Accepts = append(w.Accepts[:1:1], a)
		checkWorldOk(t, "a second Accept, "+impl.Dec(i), w, false)
		slices.Reverse(w.Accepts)
		checkWorldOk(t, "a first Accept, "+impl.Dec(i), w, false)
	}
	checkWorldOk(t, "the zero World", impl.World{}, false)
}

// A world asks for nothing that the document does not name.
func TestWhatAWorldDoesNotAsk(t *testing.T) {
	far := []int{math.MinInt, -1, 0, 40, 1000001, math.MaxInt}
	for _, n := range far {
		w := someWorld(t)
		w.Log[1] = impl.Event{Kind: n, Realm: n, By: n, Client: n, Service: n, Key: n, Parent: n, Evid: n, Rest: rest(n, n, n)}
		x := &w.Accepts[0]
		x.Key, x.Op, x.Now, x.Auth, x.Rest = n, n, n, auth(n, n, n), rest(n, n, n)
		w.Leaked = []int{n, n}
		checkWorldOk(t, "far numbers", w, true)
		for kind := impl.AcTick; kind <= impl.AcRestart; kind++ {
			checkDone(t, "beside far numbers", w, someAct(kind), 0)
		}
	}
	w := someWorld(t)
	w.Net, w.Known, w.Creds, w.Log, w.Accepts, w.Leaked = slices.Repeat(w.Net[:1], 50), impl.Known{}, nil, nil, nil, slices.Repeat([]int{1}, 40)
	checkWorldOk(t, "messages alike, and unknown", w, true)
}

func checkNew(t *testing.T, what string, c impl.Config) {
	t.Helper()
	handed, asItWas := withRoom(c)
	w, ok := impl.NewWorld(handed)
	want := impl.World{}
	if plainConfigOk(c) {
		want = impl.World{Config: c, Fresh: 101, Waits: make([]impl.Wait, 6), Caches: []impl.Cache{cache(-1), cache(-1), cache(-1)}}
	}
	if ok != plainConfigOk(c) || ok != impl.WorldOk(w) || !sameWorld(w, want) {
		t.Fatalf("%s: NewWorld(%+v) = %+v, %v", what, c, w, ok)
	}
	var answered, given memories
	answered.addWorld(w)
	given.addConfig(handed)
	checkApart(t, what, answered, given)
	if !asItWas() {
		t.Fatalf("%s: %+v was changed", what, c)
	}
}

func TestNewWorld(t *testing.T) {
	for _, c := range []impl.Config{centreConfig(), someConfig(), {UserRealm: []int{0, 0, 0}, ServiceRealm: []int{2, 2, 2}}} {
		checkNew(t, "a right Config", c)
	}
	for _, c := range wrongConfigs() {
		checkNew(t, "a Config that is not right", c)
		if w, ok := impl.NewWorld(c); ok || !reflect.DeepEqual(w, impl.World{}) {
			t.Errorf("of %+v comes %+v, %v", c, w, ok)
		}
	}
	r := rand.New(rand.NewSource(100))
	for i := range 2000 {
		checkNew(t, "any Config", anyCentreConfig(r, []int{0, 3}[i%2]))
	}
}

func TestKindsThatAreNone(t *testing.T) {
	w := someWorld(t)
	for _, kind := range []int{0, 11, -1, 12, 100, 256 + 1, -10, math.MinInt, math.MaxInt} {
		a := someAct(impl.AcAsk)
		a.Kind = kind
		if got := checkDone(t, "no kind", w, a, 1); !sameWorld(got, w) {
			t.Errorf("behind kind %d comes %+v", kind, got)
		}
		// What it names does not count then.
		checkDone(t, "no kind, and nothing there", w, act(kind, -1, -1, -1, -1), 1)
		checkDone(t, "no kind in the zero World", impl.World{}, act(kind), 1)
	}
}

// Each kind once, and each field behind it.
func TestEachAct(t *testing.T) {
	for kind, change := range map[int]func(w *impl.World){
		impl.AcTick: func(w *impl.World) { w.Now = 2 },
		impl.AcLogin: func(w *impl.World) {
			w.Net = append(w.Net, impl.LoginReq(2, 1, 112))
			w.Waits[2], w.Fresh = impl.Wait{On: true, Nonce: 112, Key: 3, Client: 2}, 113
		},
		impl.AcAsk: func(w *impl.World) {
			w.Net = append(w.Net, impl.AskReq(w.Creds[2].Ticket, 107, auth(3, 1, 112), 1, rest(2, 15, 70), 112, w.Creds[1].Ticket))
			w.Waits[3], w.Fresh = impl.Wait{On: true, Nonce: 112, Key: 107, Client: 0}, 113
		},
		impl.AcCentre: func(w *impl.World) {
			e := w.Log[3]
			e.Key = 112
			x := impl.Ticket{Client: 0, Service: 1, Key: 112, Rest: rest(6, 7, 40), Via: []int{0}}
			w.Net = append(w.Net, list(impl.Nums([]int{3, 109}), rawTicket(x, 12), rawGrant(impl.Grant{Key: 112, Service: 1, Nonce: 109, Rest: x.Rest}, 107)))
			w.Log, w.Fresh = append(w.Log, e), 113
		},
		impl.AcReply: func(w *impl.World) {
			x := impl.Ticket{Client: 0, Service: 1, Key: 110, Rest: rest(6, 7, 40), Via: []int{0}}
			w.Creds = append(w.Creds, impl.Cred{Owner: 3, Client: 0, Service: 1, Key: 110, Rest: x.Rest, Ticket: rawTicket(x, 12)})
			w.Waits[3] = impl.Wait{}
		},
		impl.AcApply: func(w *impl.World) {
			w.Net = append(w.Net, list(impl.Nums([]int{4, 0, 1}), w.Creds[1].Ticket, rawAuth(auth(0, 1, 112), 104)))
			w.Fresh = 113
		},
		impl.AcServe: func(w *impl.World) {
			w.Caches[0].Seen = append(w.Caches[0].Seen, auth(0, 1, 108))
			w.Accepts = append(w.Accepts, impl.Accept{Key: 104, Op: 3, Now: 1, Auth: auth(0, 1, 108), Rest: rest(7, 15, 50), Leaks: 1, Ticket: w.Creds[1].Ticket})
		},
		impl.AcLeak:    func(w *impl.World) { w.Leaked, w.Known.Keys = []int{13, 2}, []int{2, 13} },
		impl.AcForge:   func(w *impl.World) { w.Net = append(w.Net, someAct(impl.AcForge).Text) },
		impl.AcRestart: func(w *impl.World) { w.Caches[0] = cache(11) },
	} {
		before := someWorld(t)
		want := copiedWorld(before)
		change(&want)
		want.Known.Terms = slices.Clone(want.Net)
		if got := checkDone(t, "kind "+impl.Dec(kind), before, someAct(kind), 0); !sameWorld(got, want) {
			t.Errorf("behind kind %d comes %+v, not %+v", kind, got, want)
		}
	}
}

// What each act does not look at changes nothing.
func TestWhatAnActDoesNotLookAt(t *testing.T) {
	w := someWorld(t)
	unused := map[int]string{impl.AcTick: "ABCDRT", impl.AcLogin: "BCDRT", impl.AcAsk: "T", impl.AcCentre: "CDRT", impl.AcReply: "CDRT", impl.AcApply: "DRT", impl.AcServe: "CDRT", impl.AcLeak: "BCDRT", impl.AcForge: "ABCDR", impl.AcRestart: "BCDRT"}
	for kind, fields := range unused {
		want := checkDone(t, "as it is", w, someAct(kind), 0)
		for _, n := range []int{math.MinInt, -1, 0, 1, 5, 99, math.MaxInt} {
			a := someAct(kind)
			for _, field := range fields {
				switch field {
				case 'A':
					a.A = n
				case 'B':
					a.B = n
				case 'C':
					a.C = n
				case 'D':
					a.D = n
				case 'R':
					a.Rest = rest(n, n, n)
				case 'T':
					a.Text = strings.Repeat("x", capped(n))
				}
			}
			if got := checkDone(t, "other fields", w, a, 0); !sameWorld(got, want) {
				t.Errorf("behind %+v comes %+v", a, got)
			}
		}
	}
}

// spoiling is a reason for which an act is not done.
type spoiling struct {
	code  int
	spoil func(w *impl.World, a *impl.Act)
}

func fullNet(w *impl.World, a *impl.Act) {
	w.Net = append(w.Net, slices.Repeat([]string{"a\x00"}, 50-len(w.Net))...)
}
func lastFresh(w *impl.World, a *impl.Act) { w.Fresh = 1000000 }
func fullLog(w *impl.World, a *impl.Act) {
	w.Log = append(w.Log, make([]impl.Event, 40-len(w.Log))...)
}
func fullCreds(w *impl.World, a *impl.Act) {
	w.Creds = append(w.Creds, slices.Repeat(w.Creds[:1], 30-len(w.Creds))...)
}
func fullAccepts(w *impl.World, a *impl.Act) {
	w.Accepts = append(w.Accepts, slices.Repeat(w.Accepts[:1], 40-len(w.Accepts))...)
}
func fullLeaked(w *impl.World, a *impl.Act) {
	w.Leaked = append(w.Leaked, make([]int, 40-len(w.Leaked))...)
}

func noA(n int) func(w *impl.World, a *impl.Act) {
	return func(w *impl.World, a *impl.Act) { a.A = n }
}
func noB(n int) func(w *impl.World, a *impl.Act) {
	return func(w *impl.World, a *impl.Act) { a.B = n }
}

// Of each kind the reasons against someAct in someWorld.
func spoilings() map[int][]spoiling {
	return map[int][]spoiling{
		impl.AcTick:  {{3, func(w *impl.World, a *impl.Act) { w.Now = 100000 }}},
		impl.AcLogin: {{3, fullNet}, {3, lastFresh}, {2, noA(-1)}, {2, noA(6)}},
		impl.AcAsk: {
			{3, fullNet}, {3, lastFresh}, {3, func(w *impl.World, a *impl.Act) { w.Creds[2].Service = 1 }}, {3, func(w *impl.World, a *impl.Act) { a.C = -1 }},
			{3, func(w *impl.World, a *impl.Act) { a.Rest.Ops = 256 }}, {3, func(w *impl.World, a *impl.Act) { w.Creds[2].Ticket = listOfBytes(900) }}, {3, func(w *impl.World, a *impl.Act) { w.Accepts[0].Ticket = "x" }},
			{2, func(w *impl.World, a *impl.Act) { w.Creds[2].Owner = 4 }}, {2, func(w *impl.World, a *impl.Act) { w.Accepts[0].Server = 1 }}, {2, func(w *impl.World, a *impl.Act) { a.D = 41 }}, {2, noB(30)}, {2, noB(-1)}, {2, noA(6)},
		},
		impl.AcCentre: {
			{3, fullNet}, {3, lastFresh}, {3, fullLog}, {3, func(w *impl.World, a *impl.Act) { w.Config.Proxy = nil }}, {3, func(w *impl.World, a *impl.Act) { w.Now = 40 }},
			{2, noB(-1)}, {2, noB(50)}, {2, noA(-1)}, {2, noA(3)},
		},
		impl.AcReply: {
			{3, fullCreds}, {3, func(w *impl.World, a *impl.Act) { w.Waits[3] = impl.Wait{} }}, {3, func(w *impl.World, a *impl.Act) { w.Net[9] = w.Net[8] }},
			{2, noB(-1)}, {2, noB(11)}, {2, noA(-1)}, {2, noA(6)},
		},
		impl.AcApply: {
			{3, fullNet}, {3, lastFresh}, {3, func(w *impl.World, a *impl.Act) { w.Creds[1].Service = 10 }}, {3, func(w *impl.World, a *impl.Act) { w.Creds[1].Ticket = listOfBytes(900) }},
			{2, func(w *impl.World, a *impl.Act) { a.C = 8 }}, {2, func(w *impl.World, a *impl.Act) { a.C = -1 }}, {2, func(w *impl.World, a *impl.Act) { w.Creds[1].Owner = 1 }}, {2, noB(-1)}, {2, noB(3)}, {2, noA(-1)}, {2, noA(6)},
		},
		impl.AcServe: {
			{3, fullAccepts}, {3, func(w *impl.World, a *impl.Act) { w.Caches[0].Quiet = 1 }}, {3, func(w *impl.World, a *impl.Act) { w.Net[7] = w.Net[4] }},
			{2, noB(-1)}, {2, noB(11)}, {2, noA(-1)}, {2, noA(3)},
		},
		impl.AcLeak: {
			{3, func(w *impl.World, a *impl.Act) { w.Leaked = append(w.Leaked, 2) }}, {3, fullLeaked}, {2, noA(0)}, {2, noA(31)}, {2, noA(101)},
		},
		impl.AcForge:   {{3, fullNet}, {3, func(w *impl.World, a *impl.Act) { a.Text = impl.Seal(1, "a\x00") }}, {3, func(w *impl.World, a *impl.Act) { a.Text = "" }}},
		impl.AcRestart: {{2, noA(-1)}, {2, noA(3)}},
	}
}

// Reasons are put together: the one that the document names first is answered.
func TestWhyAnActIsNotDone(t *testing.T) {
	for kind, reasons := range spoilings() {
		reasons = append(reasons, spoiling{1, func(w *impl.World, a *impl.Act) { a.Kind = 11 }}, spoiling{1, func(w *impl.World, a *impl.Act) { w.Now = -1 }})
		codes := map[int]int{}
		for bits := range 1 << len(reasons) {
			// Of many reasons some choices will do, but each alone, and each two.
			if several := popCount(bits); several > 2 && bits%41 != 0 {
				continue
			}
			w, a, want := someWorld(t), someAct(kind), 0
			for i, reason := range reasons {
				if bits>>i&1 == 1 {
					reason.spoil(&w, &a)
					if want == 0 || reason.code < want {
						want = reason.code
					}
				}
			}
			checkDone(t, "kind "+impl.Dec(kind)+", reasons "+impl.Dec(bits), w, a, want)
			codes[want]++
		}
		if codes[0] != 1 || codes[1] == 0 {
			t.Errorf("kind %d: %v", kind, codes)
		}
	}
}

func popCount(n int) int {
	count := 0
	for ; n > 0; n >>= 1 {
		count += n & 1
	}
	return count
}

// Who and what an act names is there just within its bounds.
func TestWhatAnActNames(t *testing.T) {
	w := someWorld(t)
	full := copiedWorld(w)
	fullNet(&full, nil)
	full.Creds, full.Accepts = append(full.Creds, slices.Repeat(full.Creds[2:3], 27)...), slices.Repeat(full.Accepts, 40)
	for _, n := range append(numbersAround, 8, 29, 30, 40, 41, 49, 50, 51) {
		three, six := map[bool]int{true: 3, false: 2}[isThree(n)], plainPrincipal(n)
		checkDone(t, "a login of", w, act(impl.AcLogin, n), map[bool]int{true: 0, false: 2}[six])
		checkDone(t, "a restart of", w, act(impl.AcRestart, n), map[bool]int{true: 0, false: 2}[isThree(n)])
		checkDone(t, "a centre", w, act(impl.AcCentre, n, 7), three)
		checkDone(t, "a service", w, act(impl.AcServe, n, 8), three)
		checkDone(t, "a reply to", w, act(impl.AcReply, n, 0), map[bool]int{true: 3, false: 2}[six])
		checkDone(t, "an ask of", w, asking(n, 2, 1, 0, rest(7, 7, 7)), map[bool]int{true: 0, false: 2}[n == 3])
		checkDone(t, "a request of", w, act(impl.AcApply, n, 1, 3), map[bool]int{true: 0, false: 2}[n == 0])
		checkDone(t, "a request for op", w, act(impl.AcApply, 0, 1, n), map[bool]int{true: 0, false: 2}[n >= 0 && n <= 7])
		checkDone(t, "a Cred to ask with", w, asking(3, n, 1, 0, rest(7, 7, 7)), map[bool]int{true: 0, false: 2}[n == 2])
		// Cred 0 is for a centre, 1 for a service; the third one is not its own.
		ofUser := map[int]int{0: 3, 1: 0}
		code, its := ofUser[n]
		if !its {
			code = 2
		}
		checkDone(t, "a Cred of user 0", w, act(impl.AcApply, 0, n, 0), code)
		checkDone(t, "an Accept", w, asking(3, 2, 1, n, rest(7, 7, 7)), map[bool]int{true: 0, false: 2}[n <= 1])
		for _, kind := range []int{impl.AcCentre, impl.AcReply, impl.AcServe} {
			if _, code := checkDo(t, "a message", w, act(kind, 0, n)); (code == 2) != (n < 0 || n > 10) {
				t.Errorf("message %d: code %d", n, code)
			}
			if _, code := checkDo(t, "one of 50 messages", full, act(kind, 0, n)); (code == 2) != (n < 0 || n > 49) {
				t.Errorf("message %d of 50: code %d", n, code)
			}
		}
		checkDone(t, "one of 30 Creds", full, asking(3, n, 1, 0, rest(7, 7, 7)), map[bool]int{true: 3, false: 2}[n >= 2 && n <= 29])
		checkDone(t, "one of 40 Accepts", full, asking(3, 2, 1, n, rest(7, 7, 7)), map[bool]int{true: 3, false: 2}[n <= 40])
	}
}

// A target, a Rest and a nonce are no things that are there or not: what makes no term is not sent, all else is.
func TestAsksThatAreNoTerm(t *testing.T) {
	w := someWorld(t)
	for target, code := range map[int]int{0: 0, 1: 0, 2: 0, 3: 0, 10: 0, 1000001: 0, impl.MaxVar: 0, impl.MaxVar + 1: 3, -1: 3, math.MinInt: 3, math.MaxInt: 3} {
		checkDone(t, "a target", w, asking(0, 0, target, 0, rest(7, 7, 7)), code)
	}
	for _, wrong := range wrongRests() {
		checkDone(t, "a Rest that is not right", w, asking(0, 0, 1, 0, wrong), 3)
	}
	for _, right := range someRests() {
		if plainRight(right) {
			checkDone(t, "a Rest", w, asking(0, 0, 1, 0, right), 0)
		}
	}
	for _, evid := range append(someTerms(), "", "x", "a\x00a\x00", "l\x01", listOfBytes(900)) {
		_, term := plainTermOf(evid)
		w.Accepts[0].Ticket, w.Accepts[0].Client = evid, 5
		fits := evid == "" || term && len(evid) < 500
		got := checkDone(t, "an evid", w, asking(3, 2, 1, 1, rest(7, 7, 7)), map[bool]int{true: 0, false: 3}[fits])
		if fits && got.Waits[3] != (impl.Wait{On: true, Nonce: 112, Key: 107, Client: 5}) {
			t.Errorf("%+v", got.Waits)
		}
	}
}

// A Cred for a centre asks, one for a service applies, and neither does the other thing.
func TestWhatACredIsFor(t *testing.T) {
	for _, service := range []int{0, 1, 2, 10, 11, 12} {
		for client := range 6 {
			w := someWorld(t)
			w.Creds[1] = impl.Cred{Owner: 4, Client: client, Service: service, Key: 1000000, Rest: rest(0, 0, 0), Ticket: "a\x00"}
			forCentre := service >= 10
			asked := checkDone(t, "ask with it", w, asking(4, 1, 2, 0, rest(1, 2, 3)), map[bool]int{true: 0, false: 3}[forCentre])
			applied := checkDone(t, "apply with it", w, act(impl.AcApply, 4, 1, 5), map[bool]int{true: 3, false: 0}[forCentre])
			if forCentre {
				if sent := list(impl.Nums([]int{2, 2, 112}), "a\x00", rawAuth(auth(client, 1, 112), 1000000), impl.Nums([]int{1, 2, 3}), "a\x00"); asked.Net[11] != sent || asked.Waits[4] != (impl.Wait{On: true, Nonce: 112, Key: 1000000, Client: client}) {
					t.Errorf("%q, %+v", asked.Net[11], asked.Waits[4])
				}
			} else if sent := list(impl.Nums([]int{4, service, 5}), "a\x00", rawAuth(auth(client, 1, 112), 1000000)); applied.Net[11] != sent || !slices.Equal(applied.Waits, w.Waits) {
				t.Errorf("%q, %+v", applied.Net[11], applied.Waits)
			}
		}
	}
}

// Only the service that took it has it as evid.
func TestWhoseAcceptItIs(t *testing.T) {
	for server := range 3 {
		for p := range 6 {
			w := someWorld(t)
			w.Accepts[0].Server, w.Accepts[0].Client, w.Creds[2].Owner = server, 2, p
			got := checkDone(t, "an Accept", w, asking(p, 2, 1, 1, rest(7, 7, 7)), map[bool]int{true: 0, false: 2}[p == 3+server])
			if p == 3+server && got.Waits[p].Client != 2 {
				t.Errorf("%+v", got.Waits)
			}
			// Without one, whoever asks is itself.
			for _, none := range []int{0, -1, math.MinInt} {
				if got := checkDone(t, "no Accept", w, asking(p, 2, 1, none, rest(7, 7, 7)), 0); got.Waits[p].Client != 3 {
					t.Errorf("%+v", got.Waits)
				}
			}
		}
	}
}

func TestTimeToItsEnd(t *testing.T) {
	for now, code := range map[int]int{0: 0, 1: 0, 99998: 0, 99999: 0, 100000: 3} {
		w := someWorld(t)
		w.Now = now
		if got := checkDone(t, "a tick", w, act(impl.AcTick), code); got.Now != min(100000, now+1) {
			t.Errorf("behind %d comes %d", now, got.Now)
		}
	}
	w := someWorld(t)
	w.Now = 99951
	w = checkDone(t, "a login near the end", w, act(impl.AcLogin, 0), 0)
	checkDone(t, "a login that would end too late", w, act(impl.AcCentre, 0, 11), 3)
	w.Now = 99950
	w.Config.Skew = 1
	if got := checkDone(t, "a login that just ends", w, act(impl.AcCentre, 0, 11), 0); got.Log[4].Rest.End != 100000 {
		t.Errorf("%+v", got.Log)
	}
}

// The last fresh number is not used, whatever would be sent with it.
func TestFreshToItsEnd(t *testing.T) {
	usesFresh := []int{impl.AcLogin, impl.AcAsk, impl.AcCentre, impl.AcApply}
	for kind := impl.AcTick; kind <= impl.AcRestart; kind++ {
		w := someWorld(t)
		w.Fresh = 999999
		got := checkDone(t, "the last but one", w, someAct(kind), 0)
		used := slices.Contains(usesFresh, kind)
		if got.Fresh != map[bool]int{true: 1000000, false: 999999}[used] {
			t.Errorf("kind %d: %d", kind, got.Fresh)
		}
		w.Fresh = 1000000
		checkDone(t, "the last", w, someAct(kind), map[bool]int{true: 3, false: 0}[used])
	}
}

// Where Net is full nothing is sent, and nothing else comes of it: nobody waits, and nothing is done.
func TestWhatIsNotSent(t *testing.T) {
	sends := []int{impl.AcLogin, impl.AcAsk, impl.AcCentre, impl.AcApply, impl.AcForge}
	for kind := impl.AcTick; kind <= impl.AcRestart; kind++ {
		w := someWorld(t)
		w.Net = append(w.Net, slices.Repeat([]string{"l\x00"}, 38)...)
		got := checkDone(t, "the last one", w, someAct(kind), 0)
		sent := slices.Contains(sends, kind)
		if len(got.Net) != map[bool]int{true: 50, false: 49}[sent] {
			t.Errorf("kind %d: %d messages", kind, len(got.Net))
		}
		w.Net = append(w.Net, "l\x00")
		got = checkDone(t, "one more", w, someAct(kind), map[bool]int{true: 3, false: 0}[sent])
		if sent && !sameWorld(got, w) {
			t.Errorf("kind %d: %+v", kind, got)
		}
	}
}

// What is sent is known once, and only as long as there is room; it is sent all the same.
func TestWhatIsSentIsLearned(t *testing.T) {
	w := someWorld(t)
	for range 3 {
		w = checkDone(t, "again", w, forging("a\x02hi"), 0)
	}
	if !slices.Equal(w.Net[11:], []string{"a\x02hi", "a\x02hi", "a\x02hi"}) || !slices.Equal(w.Known.Terms[11:], []string{"a\x02hi"}) {
		t.Errorf("%q, %q", w.Net[11:], w.Known.Terms[11:])
	}
	for _, kind := range []int{impl.AcLogin, impl.AcAsk, impl.AcCentre, impl.AcApply, impl.AcForge} {
		for count := 58; count <= 60; count++ {
			w := someWorld(t)
			w.Known.Terms = keyTermsFrom(1, count)
			got := checkDone(t, "little room", w, someAct(kind), 0)
			if len(got.Net) != 12 || len(got.Known.Terms) != min(60, count+1) || count < 60 && got.Known.Terms[count] != got.Net[11] {
				t.Errorf("kind %d: %q", kind, got.Known.Terms)
			}
		}
	}
	for count := 38; count <= 40; count++ {
		w := someWorld(t)
		w.Known.Keys = numbersFrom(101, count)
		got := checkDone(t, "little room for keys", w, act(impl.AcLeak, 21), 0)
		if !slices.Equal(got.Leaked, []int{13, 21}) || len(got.Known.Keys) != min(40, count+1) || slices.Contains(got.Known.Keys, 21) != (count < 40) {
			t.Errorf("%v, %v", got.Leaked, got.Known.Keys)
		}
	}
}

func TestKeysThatLeak(t *testing.T) {
	for key := -3; key <= 120; key++ {
		w := someWorld(t)
		code := 2
		if slices.Contains(keysFromTheBeginning, key) {
			code = map[bool]int{true: 3, false: 0}[key == 13]
		}
		got := checkDone(t, "a leak", w, act(impl.AcLeak, key), code)
		if code == 0 && (!slices.Equal(got.Leaked, []int{13, key}) || !slices.Contains(impl.Reach(got.Known), key)) {
			t.Errorf("key %d: %v, %v", key, got.Leaked, got.Known.Keys)
		}
		if code == 0 {
			checkDone(t, "again", got, act(impl.AcLeak, key), 3)
		}
		// What is known otherwise is not leaked yet.
		w.Known.Keys, w.Leaked, w.Accepts[0].Leaks = slices.Compact(slices.Sorted(slices.Values([]int{13, max(1, key)}))), nil, 0
		checkDone(t, "known, not leaked", w, act(impl.AcLeak, key), map[bool]int{true: 0, false: 2}[slices.Contains(keysFromTheBeginning, key)])
	}
	w := someWorld(t)
	w.Leaked = numbersFrom(1000, 39)
	w = checkDone(t, "the last one", w, act(impl.AcLeak, 38), 0)
	checkDone(t, "one more", w, act(impl.AcLeak, 1), 3)
	checkDone(t, "one more, and no key", w, act(impl.AcLeak, 4), 2)
	// All that stand from the beginning leak one by one.
	w = someWorld(t)
	for _, key := range keysFromTheBeginning {
		if key != 13 {
			w = checkDone(t, "all", w, act(impl.AcLeak, key), 0)
		}
	}
	if !slices.Equal(w.Known.Keys, keysFromTheBeginning) || len(w.Leaked) != 15 || w.Leaked[0] != 13 {
		t.Errorf("%v, %v", w.Known.Keys, w.Leaked)
	}
}

func TestWhatIsForged(t *testing.T) {
	w := someWorld(t)
	sealed := w.Creds[1].Ticket
	for text, code := range map[string]int{
		"": 3, "x": 3, "a\x00": 0, "a\x02hi": 0, "l\x00": 0, "k\x01": 3, "k\x0d": 0, "k\x68": 3, sealed: 0, list(sealed, sealed): 0, w.Net[4]: 0, impl.Seal(13, sealed): 0,
		impl.Seal(11, "a\x00"): 3, impl.Seal(13, key(1)): 3, list("a\x00", key(1)): 3, listOfBytes(900): 0, listOfBytes(901): 3, listedTimes("a\x00", 7): 0, listedTimes("a\x00", 8): 3, "a\x00a\x00": 3, rawAuth(auth(0, 1, 1), 104): 3,
		rawTicket(impl.Ticket{Service: 0, Key: 13, Rest: rest(7, 255, 90)}, 11): 3, rawTicket(impl.Ticket{Service: 2, Key: 13, Rest: rest(7, 255, 90)}, 13): 0, rawTicket(impl.Ticket{Service: 2, Key: 14, Rest: rest(7, 255, 90)}, 13): 3,
	} {
		got := checkDone(t, "a forged text", w, forging(text), code)
		if code == 0 && (got.Net[11] != text || !slices.Contains(got.Known.Terms, text) || !slices.Equal(impl.Reach(got.Known), impl.Reach(w.Known))) {
			t.Errorf("%q: %+v", text, got)
		}
	}
}

// Who knows the key of service 2 makes a ticket for it, and is taken there; Leaks says how much was leaked by then.
func TestServedWithWhatWasForged(t *testing.T) {
	w := someWorld(t)
	for i := range 4 {
		x := impl.Ticket{Client: 2, Service: 2, Key: 13, Rest: rest(4, 8, 10), Path: []int{1, i % 3}, Via: []int{2, 0}}
		w = checkDone(t, "forged", w, forging(list(impl.Nums([]int{4, 2, 3}), rawTicket(x, 13), rawAuth(auth(2, 3, i), 13))), 0)
		w = checkDone(t, "taken", w, act(impl.AcServe, 2, 11+i), 0)
		if taken := w.Accepts[1+i]; taken.Leaks != 1+i || taken.Server != 2 || taken.Client != 2 || !slices.Equal(taken.Path, x.Path) || !slices.Equal(taken.Via, x.Via) || taken.Now != 1 {
			t.Errorf("%+v", taken)
		}
		w = checkDone(t, "leaked", w, act(impl.AcLeak, []int{1, 2, 3, 38}[i]), 0)
	}
	if len(w.Caches[2].Seen) != 4 || len(w.Caches[0].Seen) != 1 || len(w.Caches[1].Seen) != 0 {
		t.Errorf("%+v", w.Caches)
	}
}

// A reply is taken by who waits for it, once, and by nobody else.
func TestWhoTakesAReply(t *testing.T) {
	w := someWorld(t)
	for p := range 6 {
		for message := range w.Net {
			checkDone(t, "a reply", w, act(impl.AcReply, p, message), map[bool]int{true: 0, false: 3}[p == 3 && message == 9])
		}
	}
	taken := checkDone(t, "taken", w, act(impl.AcReply, 3, 9), 0)
	checkDone(t, "again", taken, act(impl.AcReply, 3, 9), 3)
	later := checkDone(t, "it waits for something else", w, act(impl.AcLogin, 3), 0)
	if later.Waits[3] != (impl.Wait{On: true, Nonce: 112, Key: 11, Client: 3}) {
		t.Errorf("%+v", later.Waits)
	}
	checkDone(t, "too late", later, act(impl.AcReply, 3, 9), 3)
	// What is forged under its key is taken, too; it is in the name that it waits for.
	forged := func(key int) impl.Act {
		return forging(list(impl.Nums([]int{3, 111}), "a\x02hi", rawGrant(impl.Grant{Key: key, Service: 12, Nonce: 111, Rest: rest(1, 2, 3)}, 2)))
	}
	checkDone(t, "without the key", w, forged(2), 3)
	w = checkDone(t, "leaked", w, act(impl.AcLeak, 2), 0)
	checkDone(t, "of a key that is not reached", w, forged(104), 3)
	w = checkDone(t, "with the key", w, forged(2), 0)
	w = checkDone(t, "taken", w, act(impl.AcReply, 1, 11), 0)
	if got := w.Creds[3]; got != (impl.Cred{Owner: 1, Client: 1, Service: 12, Key: 2, Rest: rest(1, 2, 3), Ticket: "a\x02hi"}) || w.Waits[1].On {
		t.Errorf("%+v, %+v", got, w.Waits[1])
	}
}

func TestCredsAcceptsAndLogToTheirEnds(t *testing.T) {
	for _, x := range []struct {
		kind int
		fill func(w *impl.World, a *impl.Act)
		// The list has room for one again.
		room  func(w *impl.World)
		count func(w impl.World) int
		most  int
	}{
		{impl.AcReply, fullCreds, func(w *impl.World) { w.Creds = w.Creds[:29] }, func(w impl.World) int { return len(w.Creds) }, 30},
		{impl.AcServe, fullAccepts, func(w *impl.World) { w.Accepts = w.Accepts[:39] }, func(w impl.World) int { return len(w.Accepts) }, 40},
		{impl.AcCentre, fullLog, func(w *impl.World) { w.Log = w.Log[:39] }, func(w impl.World) int { return len(w.Log) }, 40},
		{impl.AcLeak, fullLeaked, func(w *impl.World) { w.Leaked = w.Leaked[:39] }, func(w impl.World) int { return len(w.Leaked) }, 40},
	} {
		w := someWorld(t)
		x.fill(&w, nil)
		checkDone(t, "one more", w, someAct(x.kind), 3)
		x.room(&w)
		if got := checkDone(t, "the last one", w, someAct(x.kind), 0); x.count(got) != x.most {
			t.Errorf("kind %d: %d", x.kind, x.count(got))
		}
	}
}

// A message that is served is not served again, at whatever time, and however often the service restarts.
func TestNothingIsTakenTwice(t *testing.T) {
	for _, skew := range []int{0, 1, 5, 20} {
		for restarts := range 4 {
			w := someWorld(t)
			w.Config.Skew, w.Now = skew, 1
			w = checkDone(t, "first", w, act(impl.AcServe, 0, 7), 0)
			for later := range 2*skew + 6 {
				checkDone(t, "again", w, act(impl.AcServe, 0, 7), 3)
				if restarts > 0 && later%restarts == 0 {
					w = checkDone(t, "a restart", w, act(impl.AcRestart, 0), 0)
					if !sameCache(w.Caches[0], cache(w.Now+2*skew)) || len(w.Caches[1].Seen) != 0 || w.Caches[1].Quiet != -1 {
						t.Errorf("%+v", w.Caches)
					}
				}
				checkDone(t, "again", w, act(impl.AcServe, 0, 7), 3)
				w = checkDone(t, "a tick", w, act(impl.AcTick), 0)
			}
		}
	}
	// Behind the quiet time new requests are taken.
	w := checkDone(t, "a restart", someWorld(t), act(impl.AcRestart, 0), 0)
	for now := 1; now <= 13; now++ {
		asked := checkDone(t, "a request", w, act(impl.AcApply, 0, 1, 2), 0)
		checkDone(t, "taken", asked, act(impl.AcServe, 0, 11), map[bool]int{true: 3, false: 0}[now <= 11])
		w = checkDone(t, "a tick", w, act(impl.AcTick), 0)
	}
}

// checkOnce asks that no two Accepts have the same Server and Auth.
func checkOnce(t *testing.T, w impl.World) {
	t.Helper()
	type request struct {
		server int
		auth   impl.Auth
	}
	seen := map[request]bool{}
	for _, x := range w.Accepts {
		r := request{x.Server, x.Auth}
		if seen[r] {
			t.Fatalf("%+v is taken twice", r)
		}
		seen[r] = true
	}
}

// checkInTheNameOf asks of each ticket in a user's name that Proxy and realms allow it.
func checkInTheNameOf(t *testing.T, w impl.World) {
	t.Helper()
	for _, e := range w.Log {
		if e.Kind != impl.EvDelegate {
			continue
		}
		if e.By < 3 || plainRealmOf(w.Config, e.By) != e.Realm || plainRealmOf(w.Config, 3+e.Service) != e.Realm || !slices.Contains(w.Config.Proxy, impl.Pair{A: e.By - 3, B: e.Service}) {
			t.Fatalf("%+v is given in a world of %+v", e, w.Config)
		}
	}
}

// Each service asks for each one in a user's name, wherever both are, and whatever Proxy says: it is given a ticket just where these allow it.
func TestInTheNameOfAUser(t *testing.T) {
	given := 0
	for s := range 3 {
		for target := range 3 {
			for realms := range 9 {
				if s == target && realms/3 != realms%3 {
					continue
				}
				for _, proxy := range [][]impl.Pair{nil, pairs(s, target), pairs(target, s), pairs((s+1)%3, target), pairs(s, (target+1)%3), pairs(target, s, s, target)} {
					c := impl.Config{UserRealm: []int{realms / 3, realms / 3, realms / 3}, ServiceRealm: []int{2, 2, 2}, Links: unlikePairs, Skew: 3}
					c.ServiceRealm[target], c.ServiceRealm[s] = realms%3, realms/3
					c.Proxy = slices.Compact(proxy)
					allowed := realms/3 == realms%3 && slices.Contains(proxy, impl.Pair{A: s, B: target})
					checkDelegation(t, c, s, target, allowed)
					if allowed {
						given++
					}
				}
			}
		}
	}
	if given < 40 {
		t.Error(given)
	}
}

// checkDelegation has user 1 served by s, which then asks for the target in its name.
func checkDelegation(t *testing.T, c impl.Config, s, target int, allowed bool) {
	t.Helper()
	realm := plainRealmOf(c, 3+s)
	acts := []impl.Act{
		act(impl.AcLogin, 1), act(impl.AcCentre, realm, 0), act(impl.AcReply, 1, 1), asking(1, 0, s, 0, rest(7, 12, 60)), act(impl.AcCentre, realm, 2), act(impl.AcReply, 1, 3),
		act(impl.AcApply, 1, 1, 2), act(impl.AcServe, s, 4), act(impl.AcLogin, 3+s), act(impl.AcCentre, realm, 5), act(impl.AcReply, 3+s, 6),
		asking(3+s, 2, target, 1, rest(1<<target, 8, 30)), act(impl.AcCentre, realm, 7), act(impl.AcReply, 3+s, 8), act(impl.AcApply, 3+s, 3, 3), act(impl.AcServe, target, 9),
	}
	w, codes := impl.Play(c, acts)
	want := make([]int, 16)
	if !allowed {
		want = append(make([]int, 12), 3, 2, 2, 2)
	}
	if !slices.Equal(codes, want) {
		t.Fatalf("service %d for %d in %+v: %v", s, target, c, codes)
	}
	checkInTheNameOf(t, w)
	if !allowed {
		return
	}
	e, taken := w.Log[3], w.Accepts[1]
	if e.Kind != impl.EvDelegate || e.By != 3+s || e.Client != 1 || e.Service != target || e.Parent != w.Log[2].Key || e.Evid != w.Log[1].Key || e.Rest != rest(1<<target, 8, 30) {
		t.Fatalf("%+v", e)
	}
	if taken.Client != 1 || taken.Server != target || taken.Op != 3 || !slices.Equal(taken.Via, []int{s}) || w.Creds[3].Owner != 3+s || w.Creds[3].Client != 1 {
		t.Fatalf("%+v, %+v", taken, w.Creds[3])
	}
}

// checkPlay holds Play against what the acts make of a world one by one, and asks for promise 10.
func checkPlay(t *testing.T, c impl.Config, acts []impl.Act) (impl.World, []int) {
	t.Helper()
	handed, asItWas := withRoom(c)
	room := append(slices.Clone(acts), act(-7), act(-8))
	before := slices.Clone(room)
	w, codes := impl.Play(handed, room[:len(acts)])
	var answered, given memories
	answered.addWorld(w)
	addList(&answered, "the codes", codes)
	given.addConfig(handed)
	addList(&given, "the acts", room)
	for _, a := range acts {
		given.addTexts("Text", a.Text)
	}
	checkApart(t, "Play", answered, given)
	if !asItWas() || !slices.Equal(room, before) {
		t.Fatalf("an argument of Play was changed: %+v, %+v", c, acts)
	}
	if !plainConfigOk(c) || len(acts) > 120 {
		if len(codes) != 0 || !reflect.DeepEqual(w, impl.World{}) {
			t.Fatalf("Play(%+v, of %d) = %+v, %v", c, len(acts), w, codes)
		}
		return w, codes
	}
	step, _ := impl.NewWorld(c)
	if len(codes) != len(acts) {
		t.Fatalf("%d codes of %d acts", len(codes), len(acts))
	}
	for i, a := range acts {
		next, code := checkDo(t, "one by one", step, a)
		if code != codes[i] {
			t.Fatalf("code %d is %d, not %d", i, codes[i], code)
		}
		step = next
		if !isBeginning(step, w) {
			t.Fatalf("behind %d acts: %+v is no beginning of %+v", i+1, step, w)
		}
	}
	if !sameWorld(step, w) {
		t.Fatalf("Play(%+v, %+v) = %+v, not %+v", c, acts, w, step)
	}
	checkOnce(t, w)
	checkInTheNameOf(t, w)
	return w, codes
}

func TestPlay(t *testing.T) {
	w, codes := checkPlay(t, centreConfig(), someScript())
	if len(codes) != 17 || slices.Max(codes) != 0 || !sameWorld(w, someWorld(t)) {
		t.Errorf("%+v, %v", w, codes)
	}
	w, codes = checkPlay(t, centreConfig(), nil)
	if fresh, _ := impl.NewWorld(centreConfig()); len(codes) != 0 || !sameWorld(w, fresh) {
		t.Errorf("%+v, %v", w, codes)
	}
	for _, c := range wrongConfigs() {
		checkPlay(t, c, nil)
		checkPlay(t, c, someScript())
		checkPlay(t, c, make([]impl.Act, 121))
	}
	for count := 118; count <= 122; count++ {
		w, codes := checkPlay(t, centreConfig(), slices.Repeat([]impl.Act{act(impl.AcTick)}, count))
		if count <= 120 && (w.Now != count || len(codes) != count) || count > 120 && (w.Now != 0 || len(codes) != 0) {
			t.Errorf("%d acts: %+v, %v", count, w, codes)
		}
	}
	checkPlay(t, centreConfig(), make([]impl.Act, 100000))
	// Acts that are not done stand among those that are, and change nothing for them.
	var mixed []impl.Act
	for _, a := range someScript() {
		mixed = append(mixed, act(0), act(impl.AcApply, 5, 0, 0), a, forging(key(1)), act(impl.AcServe, 3, 0), act(impl.AcCentre, 2, 0))
	}
	got, codes := checkPlay(t, centreConfig(), mixed)
	if !sameWorld(got, someWorld(t)) || !slices.Equal(codes[:6], []int{1, 2, 0, 3, 2, 3}) {
		t.Errorf("%+v, %v", got, codes)
	}
}

// A beginning of the acts leads to a beginning of what is sent, done, taken and leaked.
func TestBeginningsOfAPlay(t *testing.T) {
	acts := append(someScript(), act(impl.AcReply, 3, 9), act(impl.AcServe, 0, 7), act(impl.AcLeak, 22), act(impl.AcApply, 3, 3, 2), act(impl.AcServe, 1, 11), act(impl.AcRestart, 0), act(impl.AcServe, 0, 7), forging("a\x02hi"))
	all, codes := checkPlay(t, centreConfig(), acts)
	if len(all.Accepts) != 3 || all.Accepts[2].Leaks != 2 || codes[23] != 3 || len(all.Net) != 13 {
		t.Fatalf("%+v, %v", all, codes)
	}
	for count := range acts {
		some, first := impl.Play(centreConfig(), acts[:count])
		if !isBeginning(some, all) || !slices.Equal(first, codes[:count]) {
			t.Errorf("%d acts: %+v, %v", count, some, first)
		}
	}
}

// anyAct is mostly one that is done, by what there is in the world: it is spoilt as often as wrong says (of so many ones).
func anyAct(r *rand.Rand, w impl.World, wrong int) impl.Act {
	a, follows := followUp(w)
	if !follows || r.Intn(6) == 0 {
		a = newAct(r, w)
	}
	if r.Intn(20) == 0 {
		a.B = r.Intn(len(w.Net) + 1)
	}
	if wrong > 0 && r.Intn(wrong) == 0 {
		n := []int{-1, 0, 3, 6, 8, 11, 50, r.Intn(60)}[r.Intn(8)]
		[]func(){func() { a.Kind = n }, func() { a.A = n }, func() { a.B = n }, func() { a.C = n }, func() { a.D = n }, func() { a.Rest.Ops = -n }, func() { a.Text = "x" }}[r.Intn(7)]()
	}
	return a
}

// followUp is what answers or takes the last message; none where that was done.
func followUp(w impl.World) (impl.Act, bool) {
	last := len(w.Net) - 1
	if last < 0 {
		return impl.Act{}, false
	}
	parts, _ := impl.Parts(w.Net[last])
	if len(parts) < 2 {
		return impl.Act{}, false
	}
	head, shown := plainNums(parts[0]), 0
	if held, _ := plainTermOf(parts[1]); held.kind == 's' {
		shown = held.n
	}
	switch {
	case len(head) == 3 && head[0] == 1 && plainPrincipal(head[1]):
		return act(impl.AcCentre, plainRealmOf(w.Config, head[1]), last), true
	case len(head) == 3 && head[0] == 2:
		return act(impl.AcCentre, (shown-21)%10%3, last), shown >= 21
	case len(head) == 3 && head[0] == 4:
		served := slices.ContainsFunc(w.Accepts, func(x impl.Accept) bool { return rawAuth(x.Auth, x.Key) == parts[2] })
		return act(impl.AcServe, head[1], last), !served
	case len(head) == 2 && head[0] == 3:
		p := slices.IndexFunc(w.Waits, func(x impl.Wait) bool { return x.On && x.Nonce == head[1] })
		return act(impl.AcReply, p, last), p >= 0
	}
	return impl.Act{}, false
}

func newAct(r *rand.Rand, w impl.World) impl.Act {
	kinds := []int{1, 2, 2, 3, 3, 3, 3, 3, 3, 6, 6, 6, 6, 6, 8, 9, 10, 4, 5, 7, 7}
	a := act(kinds[r.Intn(len(kinds))], r.Intn(6), max(0, len(w.Net)-1-r.Intn(6)), r.Intn(3))
	switch a.Kind {
	case impl.AcLogin:
		// Who took something has a reason to ask for more.
		if len(w.Accepts) > 0 && r.Intn(2) == 0 {
			a.A = 3 + w.Accepts[len(w.Accepts)-1].Server
		}
	case impl.AcAsk, impl.AcApply:
		a.Rest = rest([]int{7, 7, r.Intn(8)}[r.Intn(3)], []int{255, 255, r.Intn(256)}[r.Intn(3)], []int{100000, 60, r.Intn(100)}[r.Intn(3)])
		if len(w.Creds) > 0 {
			a.B = len(w.Creds) - 1 - r.Intn(min(4, len(w.Creds)))
			a.A = w.Creds[a.B].Owner
		}
		if a.Kind == impl.AcApply {
			a.C = r.Intn(8)
			break
		}
		// Of what a service took, where it is its own.
		for i, x := range w.Accepts {
			if x.Server+3 == a.A && r.Intn(4) > 0 {
				a.D = i + 1
			}
		}
	case impl.AcCentre, impl.AcServe, impl.AcRestart:
		a.A = r.Intn(3)
	case impl.AcLeak:
		a.A = keysFromTheBeginning[r.Intn(15)]
	case impl.AcForge:
		a.Text = anyForged(r, w)
	}
	return a
}

// anyForged is a message again, or a request to a service under a key that is leaked, or some term.
func anyForged(r *rand.Rand, w impl.World) string {
	switch {
	case len(w.Net) > 0 && r.Intn(2) == 0:
		return w.Net[r.Intn(len(w.Net))]
	case len(w.Leaked) > 0 && r.Intn(3) > 0:
		k, s := w.Leaked[r.Intn(len(w.Leaked))], r.Intn(3)
		x := impl.Ticket{Client: r.Intn(6), Service: s, Key: k, Rest: rest(7, 255, 90)}
		return list(impl.Nums([]int{4, s, r.Intn(8)}), rawTicket(x, []int{k, 11 + s}[r.Intn(2)]), rawAuth(auth(x.Client, max(0, w.Now+r.Intn(5)-2), r.Intn(3)), k))
	}
	return anyTerm(r, 4)
}

func TestAnyPlay(t *testing.T) {
	r := rand.New(rand.NewSource(101))
	codes, events, done := map[int]int{}, map[int]int{}, map[int]int{}
	taken := 0
	for i := range 150 {
		c := anyCentreConfig(r, 0)
		if i%3 == 0 {
			c = impl.Config{UserRealm: []int{0, 0, 0}, ServiceRealm: []int{0, 0, 0}, Proxy: pairs(0, 1, 1, 2, 2, 0, 1, 1), Skew: 5}
		}
		w, _ := impl.NewWorld(c)
		var acts []impl.Act
		for range 120 {
			a := anyAct(r, w, []int{0, 8}[i%2])
			next, code := impl.WorldDo(w, a)
			acts, w = append(acts, a), next
			codes[code]++
			if code == 0 {
				done[a.Kind]++
			}
		}
		w, _ = checkPlay(t, c, acts)
		for _, e := range w.Log {
			events[e.Kind]++
		}
		taken += len(w.Accepts)
	}
	for code := range 4 {
		if codes[code] < 100 {
			t.Errorf("too few of code %d: %v", code, codes)
		}
	}
	for kind := impl.AcTick; kind <= impl.AcRestart; kind++ {
		if done[kind] < 100 {
			t.Errorf("too few of kind %d: %v", kind, done)
		}
	}
	for kind := impl.EvLogin; kind <= impl.EvDelegate; kind++ {
		if events[kind] < 20 {
			t.Errorf("too few events of kind %d: %v", kind, events)
		}
	}
	if taken < 100 {
		t.Errorf("only %d are taken", taken)
	}
}

func TestWorldsKeepNothing(t *testing.T) {
	w := someWorld(t)
	for kind := impl.AcTick; kind <= impl.AcRestart; kind++ {
		first := checkDone(t, "first", w, someAct(kind), 0)
		other, _ := impl.NewWorld(someConfig())
		checkDo(t, "between", other, someAct(kind))
		if again := checkDone(t, "again", w, someAct(kind), 0); !sameWorld(first, again) {
			t.Errorf("kind %d: %+v, then %+v", kind, first, again)
		}
	}
}
