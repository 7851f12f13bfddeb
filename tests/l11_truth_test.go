package tests

import (
	"maps"
	"math"
	"math/rand"
	"reflect"
	"slices"
	"testing"

	"loop.example/g00769/impl"
)

// Truth by plain words: what the tests hold the program's answers against.

// What is none of these has no key: 0 stands for it.
var (
	plainPrincipalKeys = map[int]int{0: 1, 1: 2, 2: 3, 3: 11, 4: 12, 5: 13}
	plainServiceKeys   = map[int]int{0: 11, 1: 12, 2: 13}
	plainCentreKeys    = map[int]int{0: 21, 1: 22, 2: 23}
	// By the realm that hands on, and the number of the centre that it hands on to.
	plainReferKeys = map[[2]int]int{{0, 10}: 31, {0, 11}: 32, {0, 12}: 33, {1, 10}: 34, {1, 11}: 35, {1, 12}: 36, {2, 10}: 37, {2, 11}: 38, {2, 12}: 39}
)

func plainFind(log []impl.Event, key int) int {
	at := -1
	for i := len(log) - 1; i >= 0; i-- {
		if log[i].Key == key {
			at = i
		}
	}
	return at
}

// plainWayTo is from a login to the Event with the key. Ahead of a ticket in a user's name is its Evid, or else its Parent. Open are the Events that it came by; it is nothing where one of these comes again.
func plainWayTo(log []impl.Event, key int, byEvid bool, open ...int) []int {
	i := plainFind(log, key)
	if i < 0 || slices.Contains(open, i) || log[i].Kind < 1 || log[i].Kind > 4 {
		return nil
	}
	if log[i].Kind == 1 {
		return []int{i}
	}
	ahead := log[i].Parent
	if log[i].Kind == 4 && byEvid {
		ahead = log[i].Evid
	}
	way := plainWayTo(log, ahead, byEvid, append(open, i)...)
	if way == nil {
		return nil
	}
	return append(way, i)
}

func plainChain(log []impl.Event, key int) []int { return plainWayTo(log, key, true) }

func plainRoots(c impl.Config, log []impl.Event, key int) []int {
	if !plainConfigOk(c) {
		return nil
	}
	keys := map[int]bool{}
	for _, i := range plainWayTo(log, key, false) {
		switch e := log[i]; e.Kind {
		case 1:
			keys[plainPrincipalKeys[e.By]], keys[plainCentreKeys[e.Realm]] = true, true
		case 3:
			keys[plainReferKeys[[2]int{e.Realm, e.Service}]] = true
		default:
			keys[plainServiceKeys[e.Service]] = true
		}
	}
	if keys[0] {
		return nil
	}
	return slices.Sorted(maps.Keys(keys))
}

func plainConcerns(c impl.Config, a impl.Accept) []int {
	if !plainConfigOk(c) || !isThree(a.Server) || !plainPrincipal(a.Client) {
		return nil
	}
	keys := map[int]bool{plainPrincipalKeys[a.Client]: true, plainServiceKeys[a.Server]: true}
	for _, s := range a.Via {
		keys[plainServiceKeys[s]] = true
	}
	concerned := func(r int) bool {
		return r == plainRealmOf(c, a.Client) || r == plainRealmOf(c, 3+a.Server) || slices.Contains(a.Path, r)
	}
	for r, key := range plainCentreKeys {
		if concerned(r) {
			keys[key] = true
		}
	}
	for _, p := range unlikePairs {
		if concerned(p.A) && concerned(p.B) {
			keys[plainReferKeys[[2]int{p.A, 10 + p.B}]] = true
		}
	}
	return slices.Sorted(maps.Keys(keys))
}

func plainHonest(w impl.World, i int) bool {
	if !plainWorldOk(w) || i < 0 || i >= len(w.Accepts) {
		return false
	}
	for at, key := range w.Leaked {
		if at < w.Accepts[i].Leaks && slices.Contains(plainConcerns(w.Config, w.Accepts[i]), key) {
			return false
		}
	}
	return true
}

// said is what the four questions of a world answer.
type said struct {
	authentic, narrow, once, secret bool
}

var allTrue = said{true, true, true, true}

func plainSaid(w impl.World) said {
	if !plainWorldOk(w) {
		return said{}
	}
	is := allTrue
	for i, a := range w.Accepts {
		for _, b := range w.Accepts[:i] {
			if a.Server == b.Server && a.Auth == b.Auth {
				is.once = false
			}
		}
		if !plainHonest(w, i) {
			continue
		}
		chain := plainChain(w.Log, a.Key)
		for _, j := range chain {
			if !plainEntails(a.Rest, w.Log[j].Rest) || !plainPermits(a.Rest, a.Server, a.Op, a.Now) {
				is.narrow = false
			}
		}
		if len(chain) == 0 {
			is.authentic = false
			continue
		}
		first, last := w.Log[chain[0]], w.Log[chain[len(chain)-1]]
		if first.Kind != 1 || first.Client != a.Client || last.Client != a.Client || last.Service != a.Server {
			is.authentic = false
		}
	}
	reached := plainViewOf(w.Known).reached
	for _, e := range w.Log {
		roots := plainRoots(w.Config, w.Log, e.Key)
		leaked := slices.ContainsFunc(roots, func(key int) bool { return slices.Contains(w.Leaked, key) })
		if len(roots) > 0 && !leaked && reached[e.Key] {
			is.secret = false
		}
	}
	return is
}

func saidOf(w impl.World) said {
	return said{impl.Authentic(w), impl.Narrow(w), impl.Once(w), impl.Secret(w)}
}

// checkTruth holds all that is said of a world against plain words, and asks that nothing of it is changed.
func checkTruth(t *testing.T, what string, w impl.World) said {
	t.Helper()
	handed, asItWas := worldWithRoom(w)
	got := saidOf(handed)
	if want := plainSaid(w); got != want {
		t.Fatalf("%s: of %+v it is said %+v, not %+v", what, w, got, want)
	}
	for i := -2; i <= len(w.Accepts)+1; i++ {
		if got := impl.Honest(handed, i); got != plainHonest(w, i) {
			t.Fatalf("%s: Honest(%+v, %d) = %v", what, w, i, got)
		}
	}
	if !asItWas() {
		t.Fatalf("%s: what was handed in was changed", what)
	}
	return got
}

func checkSaid(t *testing.T, what string, w impl.World, want said) {
	t.Helper()
	if got := checkTruth(t, what, w); got != want {
		t.Errorf("%s: it is said %+v, not %+v", what, got, want)
	}
}

// checkLog holds Find, Chain and Roots of a key against plain words; asks that no argument is changed, and that what is answered is new memory.
func checkLog(t *testing.T, what string, c impl.Config, log []impl.Event, key int) ([]int, []int) {
	t.Helper()
	var asked []func() bool
	handed := roomBehind(&asked, log, impl.Event{Kind: impl.EvLogin, Key: key})
	config, configAsItWas := withRoom(c)
	if got, want := impl.Find(handed, key), plainFind(log, key); got != want {
		t.Fatalf("%s: Find(%+v, %d) = %d, not %d", what, log, key, got, want)
	}
	chain, roots := impl.Chain(handed, key), impl.Roots(config, handed, key)
	if want := plainChain(log, key); !slices.Equal(chain, want) {
		t.Fatalf("%s: Chain(%+v, %d) = %v, not %v", what, log, key, chain, want)
	}
	if want := plainRoots(c, log, key); !slices.Equal(roots, want) {
		t.Fatalf("%s: Roots(%+v, %+v, %d) = %v, not %v", what, c, log, key, roots, want)
	}
	var answered, given memories
	addList(&answered, "Chain", chain)
	addList(&answered, "Roots", roots)
	addList(&given, "the log", handed)
	given.addConfig(config)
	checkApart(t, what, answered, given)
	if !asked[0]() || !configAsItWas() {
		t.Fatalf("%s: what was handed in was changed", what)
	}
	return chain, roots
}

func checkChain(t *testing.T, what string, log []impl.Event, key int, want ...int) {
	t.Helper()
	if got, _ := checkLog(t, what, centreConfig(), log, key); !slices.Equal(got, want) {
		t.Errorf("%s: the Chain of %d is %v, not %v", what, key, got, want)
	}
}

func checkRoots(t *testing.T, what string, log []impl.Event, key int, want ...int) {
	t.Helper()
	if _, got := checkLog(t, what, centreConfig(), log, key); !slices.Equal(got, want) {
		t.Errorf("%s: the Roots of %d are %v, not %v", what, key, got, want)
	}
	for _, c := range wrongConfigs() {
		if _, got := checkLog(t, what, c, log, key); len(got) != 0 {
			t.Errorf("%s: of a Config that is not right come %v", what, got)
		}
	}
}

func checkConcerns(t *testing.T, what string, c impl.Config, a impl.Accept) []int {
	t.Helper()
	var asked []func() bool
	handed := a
	handed.Path, handed.Via = roomBehind(&asked, a.Path, 1), roomBehind(&asked, a.Via, 2)
	config, configAsItWas := withRoom(c)
	got := impl.Concerns(config, handed)
	if want := plainConcerns(c, a); !slices.Equal(got, want) {
		t.Fatalf("%s: Concerns(%+v, %+v) = %v, not %v", what, c, a, got, want)
	}
	var answered, given memories
	addList(&answered, "Concerns", got)
	addList(&given, "Path", handed.Path)
	addList(&given, "Via", handed.Via)
	given.addConfig(config)
	checkApart(t, what, answered, given)
	if !asked[0]() || !asked[1]() || !configAsItWas() {
		t.Fatalf("%s: what was handed in was changed", what)
	}
	return got
}

func login(by, realm, key int) impl.Event {
	return impl.Event{Kind: impl.EvLogin, Realm: realm, By: by, Client: by, Service: 10 + realm, Key: key}
}

func issue(service, key, parent int) impl.Event {
	return impl.Event{Kind: impl.EvIssue, Service: service, Key: key, Parent: parent}
}

func refer(realm, service, key, parent int) impl.Event {
	return impl.Event{Kind: impl.EvRefer, Realm: realm, Service: service, Key: key, Parent: parent}
}

func delegate(service, key, parent, evid int) impl.Event {
	return impl.Event{Kind: impl.EvDelegate, Service: service, Key: key, Parent: parent, Evid: evid}
}

// User 0 of realm 0 comes by realm 1 to service 2 of realm 2; service 1 of realm 0 asks for service 0 in its name.
func someLog() []impl.Event {
	return []impl.Event{
		login(0, 0, 101), refer(0, 11, 102, 101), refer(1, 12, 103, 102), issue(2, 104, 103),
		issue(1, 105, 101), login(4, 0, 106), delegate(0, 107, 106, 105),
	}
}

func TestFind(t *testing.T) {
	for _, log := range [][]impl.Event{nil, {}} {
		for _, key := range []int{math.MinInt, -1, 0, 1, 101, math.MaxInt} {
			if got := impl.Find(log, key); got != -1 {
				t.Errorf("Find of %d in nothing is %d", key, got)
			}
			checkLog(t, "nothing", centreConfig(), log, key)
		}
	}
	log := someLog()
	for i, e := range log {
		if got := impl.Find(log, e.Key); got != i {
			t.Errorf("Find of %d is %d, not %d", e.Key, got, i)
		}
	}
	for _, key := range []int{math.MinInt, -101, -1, 0, 1, 100, 108, math.MaxInt} {
		if got := impl.Find(log, key); got != -1 {
			t.Errorf("Find of %d, which is not there, is %d", key, got)
		}
	}
	// Of a key that stands twice the first one counts, wherever they stand.
	for i := range log {
		for j := range i {
			twice := slices.Clone(log)
			twice[i].Key = twice[j].Key
			if got := impl.Find(twice, twice[i].Key); got != j {
				t.Errorf("Find of what stands at %d and %d is %d", j, i, got)
			}
		}
	}
	// A log need not have keys that are any.
	for _, key := range []int{math.MinInt, -1, 0, math.MaxInt} {
		if got := impl.Find([]impl.Event{issue(0, 1, 1), issue(0, key, 1), issue(0, key, 1)}, key); got != 1 {
			t.Errorf("Find of %d is %d", key, got)
		}
	}
}

func TestChain(t *testing.T) {
	log := someLog()
	for key, want := range map[int][]int{101: {0}, 102: {0, 1}, 103: {0, 1, 2}, 104: {0, 1, 2, 3}, 105: {0, 4}, 106: {5}, 107: {0, 4, 6}, 100: nil, 108: nil, 0: nil, -1: nil} {
		checkChain(t, "some log", log, key, want...)
	}
	checkChain(t, "a login alone", log[:1], 101, 0)
	checkChain(t, "a login, whatever Parent and Evid it has", []impl.Event{{Kind: impl.EvLogin, Key: 7, Parent: 7, Evid: 7}}, 7, 0)
	checkChain(t, "no login", log[1:2], 102)
	// The order in which they stand does not count.
	turned := slices.Clone(log)
	slices.Reverse(turned)
	checkChain(t, "turned round", turned, 104, 6, 5, 4, 3)
	checkChain(t, "turned round", turned, 107, 6, 2, 0)
}

// In a user's name Evid leads on, and Parent does not count.
func TestChainOfWhatIsInAUsersName(t *testing.T) {
	for _, parent := range []int{101, 104, 105, 106, 107, 55, 0, -1} {
		log := someLog()
		log[6].Parent = parent
		checkChain(t, "any Parent", log, 107, 0, 4, 6)
	}
	log := someLog()
	log[6].Evid = 106
	checkChain(t, "another Evid", log, 107, 5, 6)
	log[6].Evid = 55
	checkChain(t, "an Evid that is not there", log, 107)
	log[6].Evid = 107
	checkChain(t, "its own Evid", log, 107)
	// What is in a user's name may be handed on in that name.
	log = append(someLog(), delegate(2, 108, 106, 107), delegate(1, 109, 101, 108))
	checkChain(t, "again and again", log, 109, 0, 4, 6, 7, 8)
	for _, kind := range []int{impl.EvIssue, impl.EvRefer} {
		log = someLog()
		log[1].Kind, log[1].Evid = kind, 106
		checkChain(t, "an Evid that does not count", log, 102, 0, 1)
		log[1].Parent = 55
		checkChain(t, "an Evid in the place of a Parent", log, 102)
	}
}

func TestChainThatBreaks(t *testing.T) {
	for i := range 4 {
		log := someLog()
		log[i].Key = 55
		checkChain(t, "one is not there", log, 104)
		if i > 0 {
			log = someLog()
			log[i].Parent = 55
			checkChain(t, "a Parent is not there", log, 104)
		}
	}
	for _, kind := range []int{0, 5, -1, 6, 11, 256 + 1, math.MinInt, math.MaxInt} {
		for i := range 4 {
			log := someLog()
			log[i].Kind, log[i].Evid = kind, log[i].Parent
			checkChain(t, "a kind that is none", log, 104)
			checkRoots(t, "a kind that is none", log, 104)
			log[i].Service = 0
			checkRoots(t, "a kind that is none, for a service", log, 104)
		}
		checkChain(t, "a kind that is none, alone", []impl.Event{{Kind: kind, Key: 7, Parent: 7, Evid: 7}}, 7)
	}
	for _, kind := range []int{impl.EvIssue, impl.EvRefer, impl.EvDelegate} {
		log := someLog()
		log[0].Kind = kind
		checkChain(t, "no login at the beginning", log, 104)
		for _, service := range []int{0, 10} {
			log[0].Service = service
			checkRoots(t, "no login at the beginning", log, 104)
		}
	}
	// A key that stands twice is that of the first one.
	log := append([]impl.Event{issue(0, 102, 55)}, someLog()...)
	checkChain(t, "the first one breaks", log, 104)
	log = append(someLog(), issue(0, 102, 55))
	checkChain(t, "a later one breaks", log, 104, 0, 1, 2, 3)
	log = append([]impl.Event{login(1, 1, 103)}, someLog()...)
	checkChain(t, "the first one is a login", log, 104, 0, 4)
}

// ring has so many Events, the last one of them with the key 200; each one's Parent and Evid is the one ahead, that of the first is the last. All their own keys are there.
func ring(kind, count int) []impl.Event {
	var log []impl.Event
	service := 0
	if kind == impl.EvRefer {
		service = 10
	}
	for i := range count {
		ahead := 200 - count + i
		if i == 0 {
			ahead = 200
		}
		log = append(log, impl.Event{Kind: kind, Service: service, Key: 201 - count + i, Parent: ahead, Evid: ahead})
	}
	return log
}

func TestEventsThatComeRound(t *testing.T) {
	for _, kind := range []int{impl.EvIssue, impl.EvRefer, impl.EvDelegate} {
		for count := 1; count <= 6; count++ {
			for _, more := range [][]impl.Event{nil, {login(0, 0, 101)}, someLog()} {
				log := append(ring(kind, count), more...)
				for key := 201 - count; key <= 200; key++ {
					checkChain(t, "round", log, key)
					checkRoots(t, "round", log, key)
				}
				log = append(log, issue(0, 300, 200), delegate(0, 301, 300, 300))
				checkChain(t, "it comes to what comes round", log, 300)
				checkRoots(t, "it comes to what comes round", log, 301)
			}
		}
	}
	// By Evid it comes round, by Parent it does not; and the other way about.
	log := append(someLog(), delegate(0, 108, 106, 108))
	checkChain(t, "its own Evid", log, 108)
	checkRoots(t, "its own Evid", log, 108, 11, 12, 21)
	log = append(someLog(), delegate(0, 108, 108, 105))
	checkChain(t, "its own Parent", log, 108, 0, 4, 7)
	checkRoots(t, "its own Parent", log, 108)
}

// A Chain may have all Events there are.
func TestLongestChains(t *testing.T) {
	r := rand.New(rand.NewSource(110))
	for count := 1; count <= 40; count++ {
		var log []impl.Event
		for i := range count {
			log = append(log, impl.Event{Kind: []int{2, 3, 4}[r.Intn(3)], Key: 101 + i, Parent: 100 + i, Evid: 100 + i, Service: r.Intn(3)})
		}
		log[0] = login(0, 0, 101)
		checkChain(t, "as long as there are Events", log, 100+count, numbersFrom(0, count)...)
		slices.Reverse(log)
		want := numbersFrom(0, count)
		slices.Reverse(want)
		checkChain(t, "from the end on", log, 100+count, want...)
		r.Shuffle(count, func(i, j int) { log[i], log[j] = log[j], log[i] })
		if got, _ := checkLog(t, "in any order", centreConfig(), log, 100+count); len(got) != count {
			t.Errorf("of %d Events come %v", count, got)
		}
	}
	// A log is not bound to what a world holds, nor to an order in which it is found soon.
	const many = 100000
	log := make([]impl.Event, many)
	for i := range log {
		log[many-1-i] = issue(i%3, 1+i, i)
	}
	checkMany := func(length int, roots ...int) {
		if got := impl.Chain(log, many); len(got) != length {
			t.Errorf("the Chain has %d Events", len(got))
		}
		if got := impl.Roots(centreConfig(), log, many); !slices.Equal(got, roots) {
			t.Errorf("the Roots are %v", got)
		}
	}
	log[many-1] = login(1, 2, 1)
	checkMany(many, 2, 11, 12, 13, 23)
	log[many-1] = issue(0, 1, many)
	checkMany(0)
}

func TestRoots(t *testing.T) {
	log := someLog()
	for key, want := range map[int][]int{
		101: {1, 21}, 102: {1, 21, 32}, 103: {1, 21, 32, 36}, 104: {1, 13, 21, 32, 36}, 105: {1, 12, 21}, 106: {12, 21}, 107: {11, 12, 21}, 100: nil, 108: nil, 0: nil, -1: nil,
	} {
		checkRoots(t, "some log", log, key, want...)
	}
	for p, key := range plainPrincipalKeys {
		for r, centre := range plainCentreKeys {
			checkRoots(t, "a login", []impl.Event{login(p, r, 101)}, 101, key, centre)
		}
	}
	for realms, key := range plainReferKeys {
		// The centre of the same realm has a number, too.
		log := []impl.Event{login(0, 0, 101), refer(realms[0], realms[1], 102, 101)}
		checkRoots(t, "handed on", log, 102, 1, 21, key)
	}
	for s, key := range plainServiceKeys {
		checkRoots(t, "for a service", []impl.Event{login(0, 0, 101), issue(s, 102, 101)}, 102, 1, key, 21)
		checkRoots(t, "in a user's name", []impl.Event{login(0, 0, 101), delegate(s, 102, 101, 55)}, 102, 1, key, 21)
	}
	// Each key once.
	log = []impl.Event{login(3, 1, 101), issue(0, 102, 101), issue(0, 103, 102), refer(0, 11, 104, 103), refer(0, 11, 105, 104), delegate(0, 106, 105, 1)}
	checkRoots(t, "alike", log, 106, 11, 22, 32)
	// By Parent, whatever Evid is.
	for _, evid := range []int{101, 105, 107, 55, 0, -1} {
		log := someLog()
		log[6].Evid = evid
		checkRoots(t, "any Evid", log, 107, 11, 12, 21)
	}
	log = someLog()
	log[6].Parent = 103
	checkRoots(t, "another Parent", log, 107, 1, 11, 21, 32, 36)
	for i := range 4 {
		log := someLog()
		log[i].Key = 55
		checkRoots(t, "one is not there", log, 104)
	}
}

// 0 is no key: where one of the keys is not there, a key hangs on nothing, and so does all that was asked for with it.
func TestRootsWhereAKeyIsNotThere(t *testing.T) {
	check := func(what string, log ...impl.Event) {
		t.Helper()
		last := log[len(log)-1].Key
		checkRoots(t, what, log, last)
		log = append(log, issue(0, 110, last), refer(0, 11, 111, last), delegate(0, 112, last, 101), issue(2, 113, 112))
		for key := 110; key <= 113; key++ {
			checkRoots(t, what+", asked on with it", log, key)
		}
	}
	for _, none := range []int{-1, -2, -3, 6, 7, 9, 13, 100, math.MinInt, math.MinInt + 10, math.MaxInt} {
		check("a By that is no principal", login(none, 0, 101))
		check("a Realm that is none", login(0, none, 101))
		check("neither", login(none, none, 101))
		check("a Service that is none", login(0, 0, 101), issue(none, 102, 101))
		check("in a user's name, a Service that is none", login(0, 0, 101), delegate(none, 102, 101, 101))
		check("handed on to no centre", login(0, 0, 101), refer(0, none, 102, 101))
		check("handed on by no realm", login(0, 0, 101), refer(none, 11, 102, 101))
	}
	for _, s := range []int{10, 11, 12, 3, 4, 5} {
		check("a centre or a principal is no service", login(0, 0, 101), issue(s, 102, 101))
		check("in a user's name, a centre or a principal is no service", login(0, 0, 101), delegate(s, 102, 101, 101))
	}
	for s := range 6 {
		check("a service or a principal is no centre", login(0, 0, 101), refer(1, s, 102, 101))
	}
	for _, r := range []int{3, 4, 5, 10, 11, 12} {
		check("a realm past the last one, or a centre", login(0, r, 101))
		check("handed on by a realm past the last one, or by a centre", login(0, 0, 101), refer(r, 11, 102, 101))
	}
}

// Wherever it stands in what comes ahead, and nowhere else: neither behind the key, nor by Evid, nor in an Event with a key that stood already.
func TestRootsWhereAKeyAheadIsNotThere(t *testing.T) {
	for i := range 4 {
		log := someLog()
		log[i].Service = 55
		if i == 0 {
			// What a login is for does not count: its By does.
			checkRoots(t, "a login for none", log, 104, 1, 13, 21, 32, 36)
			log[i].By = 55
		}
		for at, whole := range [][]int{{1, 21}, {1, 21, 32}, {1, 21, 32, 36}, {1, 13, 21, 32, 36}} {
			if at >= i {
				whole = nil
			}
			checkRoots(t, "one key of several", log, 101+at, whole...)
		}
		checkRoots(t, "its Parents are whole", log, 107, 11, 12, 21)
	}
	log := append(someLog(), issue(55, 102, 101), login(55, 55, 101), refer(0, 55, 120, 101))
	checkRoots(t, "others are not there", log, 104, 1, 13, 21, 32, 36)
	log = append([]impl.Event{issue(55, 102, 101)}, someLog()...)
	checkRoots(t, "the first one of two", log, 104)
	// The Chain asks for no keys.
	log = []impl.Event{login(55, 55, 101), refer(55, 55, 102, 101), issue(55, 103, 102), delegate(55, 104, 103, 103)}
	checkChain(t, "no keys at all", log, 104, 0, 1, 2, 3)
	checkRoots(t, "no keys at all", log, 104)
}

// Each log of two Events with few numbers, and many longer ones.
func TestAnyLog(t *testing.T) {
	var each []impl.Event
	for kind := range 6 {
		for key := 1; key <= 2; key++ {
			for parent := 1; parent <= 3; parent++ {
				for evid := 1; evid <= 3; evid++ {
					each = append(each, impl.Event{Kind: kind, Key: key, Parent: parent, Evid: evid, Service: kind + key, Realm: evid, By: parent})
				}
			}
		}
	}
	c := centreConfig()
	for _, a := range each {
		checkLog(t, "one Event", c, []impl.Event{a}, a.Key)
		for _, b := range each {
			checkLog(t, "two Events", c, []impl.Event{a, b}, b.Key)
		}
	}
	r := rand.New(rand.NewSource(111))
	longest, whole, lacking := 0, 0, 0
	for i := range 30000 {
		log := make([]impl.Event, r.Intn(12))
		for j := range log {
			kind := []int{1, 2, 2, 3, 3, 4, 4, 4, r.Intn(7) - 1}[r.Intn(9)]
			log[j] = impl.Event{Kind: kind, Realm: numberNear(r, 0, 2, 9), By: numberNear(r, 0, 5, 9), Service: []int{r.Intn(3), 10 + r.Intn(3), r.Intn(16) - 2}[r.Intn(3)], Key: 1 + r.Intn(12), Parent: 1 + r.Intn(12), Evid: 1 + r.Intn(12)}
			if i%4 < 2 {
				// One key in some that is not there takes all Roots away: in half of the logs most are there.
				log[j].Service = numberNear(r, 0, 2, 9)
				if kind == impl.EvRefer {
					log[j].Service += 10
				}
			}
			if i%2 == 0 && j > 0 {
				log[j].Parent, log[j].Evid = log[r.Intn(j)].Key, log[r.Intn(j)].Key
			}
		}
		for key := range 14 {
			chain, roots := checkLog(t, "any log", c, log, key)
			longest = max(longest, len(chain))
			if len(roots) >= 4 {
				whole++
			}
			if len(roots) == 0 && len(plainWayTo(log, key, false)) >= 3 {
				lacking++
			}
		}
	}
	if longest < 6 || whole < 500 || lacking < 500 {
		t.Errorf("the longest Chain has %d Events; four Roots or more have %d, and %d lack one", longest, whole, lacking)
	}
}

func TestConcerns(t *testing.T) {
	c := impl.Config{UserRealm: []int{0, 1, 2}, ServiceRealm: []int{0, 1, 1}}
	for _, x := range []struct {
		what string
		a    impl.Accept
		want []int
	}{
		{"one realm", impl.Accept{}, []int{1, 11, 21}},
		{"two realms", impl.Accept{Client: 0, Server: 1}, []int{1, 12, 21, 22, 32, 34}},
		{"two others", impl.Accept{Client: 2, Server: 2}, []int{3, 13, 22, 23, 36, 38}},
		{"a service as Client", impl.Accept{Client: 4, Server: 2}, []int{12, 13, 22}},
		{"a service that asks itself", impl.Accept{Client: 5, Server: 2}, []int{13, 22}},
		{"by way of a third one", impl.Accept{Client: 0, Server: 1, Path: []int{2}}, []int{1, 12, 21, 22, 23, 32, 33, 34, 36, 37, 38}},
		{"by way of another one and back", impl.Accept{Client: 0, Server: 0, Path: []int{1}}, []int{1, 11, 21, 22, 32, 34}},
		{"realms that are there already", impl.Accept{Client: 0, Server: 1, Path: []int{0, 1, 0, 0, 1, 1}}, []int{1, 12, 21, 22, 32, 34}},
		{"its own realm", impl.Accept{Client: 1, Server: 2, Path: []int{1}}, []int{2, 13, 22}},
		{"in its name", impl.Accept{Client: 0, Server: 0, Via: []int{2}}, []int{1, 11, 13, 21}},
		// A service of another realm brings its key alone.
		{"by several", impl.Accept{Client: 0, Server: 0, Via: []int{2, 1, 2, 0}}, []int{1, 11, 12, 13, 21}},
		{"its own", impl.Accept{Client: 3, Server: 0, Via: []int{0, 0}}, []int{11, 21}},
		{"no realm in Path", impl.Accept{Path: []int{-1, 3, 10, 21, math.MinInt, math.MaxInt}}, []int{1, 11, 21}},
		{"realms among others", impl.Accept{Path: []int{-1, 1, 3, 1}}, []int{1, 11, 21, 22, 32, 34}},
		{"no service in Via", impl.Accept{Via: []int{-1, -2, -3, 3, 4, 5, 10, math.MinInt, math.MaxInt}}, []int{0, 1, 11, 21}},
		{"services among others", impl.Accept{Via: []int{3, 1, -1, 1}}, []int{0, 1, 11, 12, 21}},
		{"what else it has does not count", impl.Accept{Key: 101, Op: 9, Now: -1, Auth: auth(5, 5, 5), Rest: rest(-1, -1, -1), Leaks: 7, Ticket: "x"}, []int{1, 11, 21}},
	} {
		if got := checkConcerns(t, x.what, c, x.a); !slices.Equal(got, x.want) {
			t.Errorf("%s: %v, not %v", x.what, got, x.want)
		}
		for _, wrong := range wrongConfigs() {
			if got := checkConcerns(t, x.what, wrong, x.a); len(got) != 0 {
				t.Errorf("%s: of a Config that is not right come %v", x.what, got)
			}
		}
		for _, none := range []int{-1, 3, 4, 10, math.MinInt, math.MaxInt} {
			a := x.a
			a.Server = none
			if got := checkConcerns(t, x.what, c, a); len(got) != 0 {
				t.Errorf("%s: of the Server %d come %v", x.what, none, got)
			}
		}
		for _, none := range []int{-1, 6, 10, 11, math.MinInt, math.MaxInt} {
			a := x.a
			a.Client = none
			if got := checkConcerns(t, x.what, c, a); len(got) != 0 {
				t.Errorf("%s: of the Client %d come %v", x.what, none, got)
			}
		}
	}
}

func TestAnyConcerns(t *testing.T) {
	r := rand.New(rand.NewSource(112))
	for range 30000 {
		a := impl.Accept{Server: numberNear(r, 0, 2, 9), Client: numberNear(r, 0, 5, 9), Path: make([]int, r.Intn(7)), Via: make([]int, r.Intn(5))}
		for i := range a.Path {
			a.Path[i] = numberNear(r, 0, 2, 9)
		}
		for i := range a.Via {
			a.Via[i] = numberNear(r, 0, 2, 9)
		}
		checkConcerns(t, "any Accept", anyCentreConfig(r, 20), a)
	}
}

// Realm 0 hands on to 2, and that to 1; services 0 and 1 are in realm 1, and 0 may ask for 1.
func truthConfig() impl.Config {
	return impl.Config{UserRealm: []int{0, 1, 2}, ServiceRealm: []int{1, 1, 2}, Links: pairs(0, 2, 2, 1), Proxy: pairs(0, 1), Skew: 5}
}

// User 0 comes by realm 2 to service 0 (Accept 0), and this one asks service 1 in its name (Accept 1); user 1 is served by service 0, too (Accept 2).
func truthScript() []impl.Act {
	all := rest(7, 255, 100)
	return []impl.Act{
		act(impl.AcLogin, 0), act(impl.AcCentre, 0, 0), act(impl.AcReply, 0, 1),
		asking(0, 0, 0, 0, all), act(impl.AcCentre, 0, 2), act(impl.AcReply, 0, 3),
		asking(0, 1, 0, 0, rest(7, 254, 45)), act(impl.AcCentre, 2, 4), act(impl.AcReply, 0, 5),
		asking(0, 2, 0, 0, rest(3, 126, 40)), act(impl.AcCentre, 1, 6), act(impl.AcReply, 0, 7),
		act(impl.AcTick), act(impl.AcApply, 0, 3, 2), act(impl.AcServe, 0, 8),
		act(impl.AcLogin, 3), act(impl.AcCentre, 1, 9), act(impl.AcReply, 3, 10),
		asking(3, 4, 1, 1, rest(2, 60, 30)), act(impl.AcCentre, 1, 11), act(impl.AcReply, 3, 12),
		act(impl.AcApply, 3, 5, 3), act(impl.AcServe, 1, 13),
		act(impl.AcLogin, 1), act(impl.AcCentre, 1, 14), act(impl.AcReply, 1, 15),
		asking(1, 6, 0, 0, all), act(impl.AcCentre, 1, 16), act(impl.AcReply, 1, 17),
		act(impl.AcApply, 1, 7, 0), act(impl.AcServe, 0, 18),
	}
}

// playTruth says what is so behind every act.
func playTruth(t *testing.T, c impl.Config, acts []impl.Act) impl.World {
	t.Helper()
	w, _ := impl.NewWorld(c)
	checkSaid(t, "a new world", w, allTrue)
	for i, a := range acts {
		next, code := impl.WorldDo(w, a)
		if code != 0 {
			t.Fatalf("act %d, %+v: code %d", i, a, code)
		}
		w = next
		checkSaid(t, "behind act "+impl.Dec(i), w, allTrue)
	}
	return w
}

func truthWorld(t *testing.T) impl.World {
	t.Helper()
	w, codes := impl.Play(truthConfig(), truthScript())
	if slices.Max(codes) != 0 || len(w.Accepts) != 3 || len(w.Log) != 8 {
		t.Fatalf("%v, %+v", codes, w)
	}
	return w
}

func TestTruthOfAScript(t *testing.T) {
	w := playTruth(t, truthConfig(), truthScript())
	for i, want := range [][]int{{0, 1, 2, 3}, {0, 1, 2, 3, 5}, {6, 7}} {
		checkChain(t, "an Accept", w.Log, w.Accepts[i].Key, want...)
		if !impl.Honest(w, i) {
			t.Errorf("Accept %d is not Honest", i)
		}
	}
	for i, want := range [][]int{{1, 21}, {1, 21, 33}, {1, 21, 33, 38}, {1, 11, 21, 33, 38}, {11, 22}, {11, 12, 22}, {2, 22}, {2, 11, 22}} {
		checkRoots(t, "an Event", w.Log, w.Log[i].Key, want...)
	}
	for i, want := range [][]int{{1, 11, 21, 22, 23, 32, 33, 34, 36, 37, 38}, {1, 11, 12, 21, 22, 23, 32, 33, 34, 36, 37, 38}, {2, 11, 22}} {
		if got := checkConcerns(t, "an Accept", w.Config, w.Accepts[i]); !slices.Equal(got, want) {
			t.Errorf("the Concerns of Accept %d are %v", i, got)
		}
	}
}

// Each key leaks at each place of the script: an Accept is Honest just where none of its Concerns leaked ahead of it, and all stays true.
func TestLeaksAheadAndBehind(t *testing.T) {
	acts := truthScript()
	for _, key := range keysFromTheBeginning {
		for at := range len(acts) + 1 {
			w, codes := impl.Play(truthConfig(), slices.Insert(slices.Clone(acts), at, act(impl.AcLeak, key)))
			if slices.Max(codes) != 0 || len(w.Accepts) != 3 {
				t.Fatalf("%v", codes)
			}
			for i, served := range []int{14, 22, 30} {
				ahead := at <= served
				want := !ahead || !slices.Contains(plainConcerns(w.Config, w.Accepts[i]), key)
				if got := impl.Honest(w, i); got != want {
					t.Errorf("key %d leaked at %d: Honest of Accept %d is %v", key, at, i, got)
				}
			}
			if at%5 == 0 {
				checkSaid(t, "a leak", w, allTrue)
			} else if got := saidOf(w); got != allTrue {
				t.Errorf("key %d leaked at %d: it is said %+v", key, at, got)
			}
		}
	}
	// All of them behind it: what was taken stays Honest, though every session key is reached now.
	w := truthWorld(t)
	for _, key := range keysFromTheBeginning {
		w = checkDone(t, "a leak", w, act(impl.AcLeak, key), 0)
		checkSaid(t, "a leak behind it", w, allTrue)
	}
	for i := range w.Accepts {
		if !impl.Honest(w, i) {
			t.Errorf("Accept %d is not Honest any more", i)
		}
	}
	for _, e := range w.Log {
		if !slices.Contains(impl.Reach(w.Known), e.Key) {
			t.Errorf("%d is not reached", e.Key)
		}
	}
}

func TestHonest(t *testing.T) {
	w := truthWorld(t)
	for _, i := range []int{-1, 3, -2, 4, 40, math.MinInt, math.MaxInt} {
		if impl.Honest(w, i) {
			t.Errorf("there is an Accept %d", i)
		}
	}
	// The first Leaks of Leaked count, and no others.
	w.Leaked = []int{13, 3, 38, 2, 12}
	for leaks := range 6 {
		for i := range w.Accepts {
			w.Accepts[i].Leaks = leaks
		}
		checkTruth(t, "some leaked", w)
		got := []bool{impl.Honest(w, 0), impl.Honest(w, 1), impl.Honest(w, 2)}
		if !slices.Equal(got, []bool{leaks < 3, leaks < 3, leaks < 4}) {
			t.Errorf("with %d of %v leaked: %v", leaks, w.Leaked, got)
		}
	}
	// Leaked may have any numbers, also those that are no keys, and some twice.
	w.Leaked = []int{0, -1, 101, w.Log[3].Key, 31, 35, 39, 13, 13, math.MaxInt}
	for i := range w.Accepts {
		w.Accepts[i].Leaks = len(w.Leaked)
		if !impl.Honest(w, i) {
			t.Errorf("Accept %d is not Honest", i)
		}
	}
	checkSaid(t, "other numbers", w, allTrue)
	// What is known but not Leaked does not count.
	w = truthWorld(t)
	w.Known.Keys = slices.Clone(keysFromTheBeginning)
	for i := range w.Accepts {
		if !impl.Honest(w, i) {
			t.Errorf("Accept %d is not Honest", i)
		}
	}
	if got, want := checkTruth(t, "known, not leaked", w), (said{true, true, true, false}); got != want {
		t.Errorf("%+v", got)
	}
}

// wrongWorlds are not right, for one reason each; but for it all would be true of them.
func wrongWorlds(t *testing.T) []impl.World {
	t.Helper()
	l := []impl.World{{}}
	for _, spoil := range []func(w *impl.World){
		func(w *impl.World) { w.Now = -1 }, func(w *impl.World) { w.Now = 100001 }, func(w *impl.World) { w.Fresh = 100 }, func(w *impl.World) { w.Fresh = 1000001 },
		func(w *impl.World) { w.Config.Skew = 21 }, func(w *impl.World) { w.Config.Links = pairs(0, 0) }, func(w *impl.World) { w.Net[3] = "x" }, func(w *impl.World) { w.Net = make([]string, 51) },
		func(w *impl.World) { w.Known.Keys = []int{2, 1} }, func(w *impl.World) { w.Known.Terms = []string{""} }, func(w *impl.World) { w.Waits = w.Waits[:5] }, func(w *impl.World) { w.Waits[2].Key = 1 },
		func(w *impl.World) { w.Creds[0].Owner = 6 }, func(w *impl.World) { w.Caches = nil }, func(w *impl.World) { w.Caches[1].Quiet = -2 }, func(w *impl.World) { w.Log = make([]impl.Event, 41) },
		func(w *impl.World) { w.Accepts = make([]impl.Accept, 41) }, func(w *impl.World) { w.Accepts[2].Server = 3 }, func(w *impl.World) { w.Accepts[2].Server = -1 }, func(w *impl.World) { w.Accepts[1].Client = 6 },
		func(w *impl.World) { w.Accepts[2].Leaks = 1 }, func(w *impl.World) { w.Accepts[2].Leaks = -1 }, func(w *impl.World) { w.Accepts[2].Path = []int{3} }, func(w *impl.World) { w.Accepts[2].Via = make([]int, 5) }, func(w *impl.World) { w.Leaked = make([]int, 41) },
	} {
		w := truthWorld(t)
		spoil(&w)
		l = append(l, w)
		// Nor are they without what could be asked about.
		if len(w.Accepts) == 3 && len(w.Log) == 8 {
			w = copiedWorld(w)
			w.Log = nil
			l = append(l, w)
		}
	}
	return l
}

func TestTruthOfWorldsThatAreNotRight(t *testing.T) {
	for i, w := range wrongWorlds(t) {
		if impl.WorldOk(w) {
			t.Fatalf("world %d is right", i)
		}
		checkSaid(t, "world "+impl.Dec(i), w, said{})
		for _, at := range []int{-1, 0, 1, 2, 3} {
			if impl.Honest(w, at) {
				t.Errorf("in world %d Accept %d is Honest", i, at)
			}
		}
	}
}

func TestTruthWithoutAccepts(t *testing.T) {
	w := truthWorld(t)
	w.Accepts = nil
	checkSaid(t, "no Accepts", w, allTrue)
	w.Log = nil
	checkSaid(t, "no Accepts, no Log", w, allTrue)
	w = truthWorld(t)
	w.Log = nil
	checkSaid(t, "no Log", w, said{false, true, true, true})
	for _, c := range []impl.Config{truthConfig(), centreConfig(), someConfig()} {
		w, _ := impl.NewWorld(c)
		checkSaid(t, "a new world", w, allTrue)
	}
}

// turning is one thing that is turned in a right world, and what is said then.
type turning struct {
	what string
	turn func(w *impl.World)
	want said
}

func checkTurned(t *testing.T, turned []turning) {
	t.Helper()
	for _, x := range turned {
		w := truthWorld(t)
		x.turn(&w)
		checkSaid(t, x.what, w, x.want)
		// It is not asked of what is not Honest; what leaked only behind it changes nothing. The centre of realm 1 concerns all of them.
		w.Leaked = []int{13, 22}
		later := x.want
		later.secret = plainSaid(w).secret
		checkSaid(t, x.what+", leaked behind it", w, later)
		for i := range w.Accepts {
			w.Accepts[i].Leaks = 2
		}
		checkSaid(t, x.what+", leaked ahead of it", w, said{true, true, x.want.once, later.secret})
	}
}

func TestAuthentic(t *testing.T) {
	not := said{false, true, true, true}
	var turned []turning
	for i := range 3 {
		turned = append(turned,
			turning{"another Client of an Accept", func(w *impl.World) { w.Accepts[i].Client = 2 }, not},
			turning{"an Accept of the service that asked", func(w *impl.World) { w.Accepts[i].Client = 3 }, not},
			turning{"a key that is not there", func(w *impl.World) { w.Accepts[i].Key = 99 }, not},
			turning{"no Path", func(w *impl.World) { w.Accepts[i].Path = nil }, allTrue},
			turning{"another Via", func(w *impl.World) { w.Accepts[i].Via = []int{2, 2} }, allTrue},
			turning{"another Ticket", func(w *impl.World) { w.Accepts[i].Ticket = "x" }, allTrue},
		)
	}
	// Of the Events of all Chains the first and the last one say who it was, and for whom.
	for i, count := range []said{not, allTrue, allTrue, not, allTrue, not, not, not} {
		turned = append(turned, turning{"another Client of Event " + impl.Dec(i), func(w *impl.World) { w.Log[i].Client = 2 }, count})
	}
	for i, count := range []said{allTrue, allTrue, allTrue, not, allTrue, not, allTrue, not} {
		turned = append(turned, turning{"another Service of Event " + impl.Dec(i), func(w *impl.World) { w.Log[i].Service = 2 }, count},
			turning{"a centre in place of Service of Event " + impl.Dec(i), func(w *impl.World) { w.Log[i].Service = 10 }, count})
	}
	for _, kind := range []int{0, 2, 3, 4, 5, -1, math.MaxInt} {
		for _, i := range []int{0, 6} {
			turned = append(turned, turning{"another Kind of the first Event", func(w *impl.World) { w.Log[i].Kind = kind }, not})
		}
	}
	turned = append(turned,
		turning{"the last Event is a login of its own", func(w *impl.World) { w.Log[3].Kind = impl.EvLogin }, allTrue},
		turning{"a middle one is a login of its own", func(w *impl.World) { w.Log[2].Kind = impl.EvLogin }, allTrue},
		turning{"a middle one is a login of another Client", func(w *impl.World) { w.Log[2].Kind, w.Log[2].Client = impl.EvLogin, 1 }, not},
		turning{"a Parent that is not there", func(w *impl.World) { w.Log[2].Parent = 99 }, not},
		turning{"an Evid that is not there", func(w *impl.World) { w.Log[5].Evid = 99 }, not},
		turning{"an Evid of another Client", func(w *impl.World) { w.Log[5].Evid, w.Accepts[1].Rest = w.Log[7].Key, rest(2, 60, 30) }, not},
		turning{"its own Parent", func(w *impl.World) { w.Log[2].Parent = w.Log[2].Key }, not},
		turning{"another Parent of what is in its name", func(w *impl.World) { w.Log[5].Parent = 99 }, allTrue},
		turning{"the Accept is another service's", func(w *impl.World) { w.Accepts[0].Server = 1 }, not},
		turning{"the key of a login", func(w *impl.World) { w.Accepts[2].Key = w.Log[6].Key }, not},
		turning{"the key of who asked in its name", func(w *impl.World) { w.Accepts[1].Key = w.Log[4].Key }, not},
		turning{"a key that stands ahead, too", func(w *impl.World) {
			w.Log = slices.Insert(w.Log, 0, impl.Event{Kind: impl.EvIssue, Key: w.Accepts[2].Key, Parent: 99})
		}, not},
		turning{"a key that stands behind, too", func(w *impl.World) {
			w.Log = append(w.Log, impl.Event{Kind: impl.EvIssue, Key: w.Accepts[2].Key, Parent: 99})
		}, allTrue},
	)
	checkTurned(t, turned)
}

func TestNarrow(t *testing.T) {
	not := said{true, false, true, true}
	var turned []turning
	wider := []impl.Rest{rest(7, 60, 30), rest(2, 255, 30), rest(2, 60, 31)}
	for _, r := range wider {
		// Wider than its ticket was given, though others of the Chain are wider still.
		turned = append(turned, turning{"a wider Rest of an Accept", func(w *impl.World) { w.Accepts[1].Rest = r }, not})
	}
	for _, r := range []impl.Rest{rest(2, 8, 1), rest(2, 60, 1), rest(2, 8, 30)} {
		turned = append(turned, turning{"a narrower Rest of an Accept", func(w *impl.World) { w.Accepts[1].Rest = r }, allTrue})
	}
	for _, r := range []impl.Rest{rest(0, 60, 30), rest(2, 52, 30), rest(2, 60, 0), rest(0, 0, 0)} {
		turned = append(turned, turning{"a Rest of an Accept that does not permit it", func(w *impl.World) { w.Accepts[1].Rest = r }, not})
	}
	// Each Event of a Chain counts, and others do not: 4 is the login of who asked in its name.
	for i, count := range []said{not, not, not, not, allTrue, not, not, not} {
		for _, r := range append([]impl.Rest{rest(1, 255, 100), rest(7, 16, 100), rest(7, 255, 0), rest(0, 0, 0)}, wrongRests()...) {
			if i >= 6 && r == rest(1, 255, 100) {
				r = rest(2, 255, 100)
			}
			turned = append(turned, turning{"a narrower Rest of Event " + impl.Dec(i), func(w *impl.World) { w.Log[i].Rest = r }, count})
		}
		turned = append(turned, turning{"a wider Rest of Event " + impl.Dec(i), func(w *impl.World) { w.Log[i].Rest = rest(7, 255, 100000) }, allTrue})
	}
	for _, r := range wrongRests() {
		turned = append(turned, turning{"a Rest of an Accept that is not right", func(w *impl.World) { w.Accepts[2].Rest = r }, not})
	}
	for _, op := range []int{0, 1, 6, 7, 8, -1, 64, math.MinInt, math.MaxInt} {
		turned = append(turned, turning{"an Op that is not permitted", func(w *impl.World) { w.Accepts[1].Op = op }, not})
	}
	for op := 2; op <= 5; op++ {
		turned = append(turned, turning{"an Op that is permitted", func(w *impl.World) { w.Accepts[1].Op = op }, allTrue})
	}
	for _, now := range []int{31, 100, -1, math.MinInt, math.MaxInt} {
		turned = append(turned, turning{"a time that is not permitted", func(w *impl.World) { w.Accepts[1].Now = now }, not})
	}
	for _, now := range []int{0, 1, 30} {
		turned = append(turned, turning{"a time that is permitted", func(w *impl.World) { w.Accepts[1].Now = now }, allTrue})
	}
	turned = append(turned,
		turning{"a Server that is not permitted", func(w *impl.World) { w.Accepts[1].Server = 0 }, said{false, false, true, true}},
		// Where there is no Chain there is no Event to ask of.
		turning{"no Chain", func(w *impl.World) { w.Accepts[1].Key, w.Accepts[1].Op, w.Accepts[1].Rest = 99, 7, rest(7, 255, 9000) }, said{false, true, true, true}},
		turning{"a Chain without a login", func(w *impl.World) { w.Log[0].Kind, w.Accepts[1].Op = 5, 7 }, said{false, true, true, true}},
	)
	checkTurned(t, turned)
}

func TestOnce(t *testing.T) {
	not := said{true, true, false, true}
	again := func(change func(a *impl.Accept)) func(w *impl.World) {
		return func(w *impl.World) {
			a := copiedAccept(w.Accepts[0])
			change(&a)
			w.Accepts = append(w.Accepts, a)
		}
	}
	turned := []turning{
		{"twice", again(func(a *impl.Accept) {}), not},
		{"with another Op", again(func(a *impl.Accept) { a.Op = 3 }), not},
		{"at another time", again(func(a *impl.Accept) { a.Now = 9 }), not},
		{"with a narrower Rest", again(func(a *impl.Accept) { a.Rest = rest(1, 4, 7) }), not},
		{"with another Ticket", again(func(a *impl.Accept) { a.Ticket, a.Path, a.Via = "x", nil, []int{1} }), not},
		{"of another Client", again(func(a *impl.Accept) { a.Client = 1 }), said{false, true, false, true}},
		{"with another key", again(func(a *impl.Accept) { a.Key = 99 }), said{false, true, false, true}},
		{"at another Server", again(func(a *impl.Accept) { a.Server = 1 }), said{false, true, true, true}},
		{"with another Seq", again(func(a *impl.Accept) { a.Auth.Seq++ }), allTrue},
		{"with another Time", again(func(a *impl.Accept) { a.Auth.Time++ }), allTrue},
		{"with another Client of its Auth", again(func(a *impl.Accept) { a.Auth.Client = 5 }), allTrue},
		{"far apart", func(w *impl.World) {
			again(func(a *impl.Accept) {})(w)
			slices.Reverse(w.Accepts)
		}, not},
		{"side by side", func(w *impl.World) { w.Accepts = slices.Insert(w.Accepts, 0, w.Accepts[0]) }, not},
		{"all alike", func(w *impl.World) { w.Accepts = slices.Repeat(w.Accepts[:1], 40) }, not},
	}
	checkTurned(t, turned)
	// As many as there may be, all unlike.
	w := truthWorld(t)
	for i := range 37 {
		a := copiedAccept(w.Accepts[0])
		a.Auth.Seq = i
		w.Accepts = append(w.Accepts, a)
	}
	checkSaid(t, "forty", w, allTrue)
	w.Accepts[39].Auth.Seq = 20
	checkSaid(t, "the last one was taken", w, not)
}

// A session key is seen; it may be, just where one of its Roots is Leaked.
func TestSecret(t *testing.T) {
	not := said{true, true, true, false}
	for i, e := range truthWorld(t).Log {
		roots := plainRoots(truthConfig(), truthWorld(t).Log, e.Key)
		for how, learn := range []func(k impl.Known) impl.Known{
			func(k impl.Known) impl.Known { return impl.Learn(k, key(e.Key)) },
			func(k impl.Known) impl.Known { return impl.LearnKey(k, e.Key) },
			func(k impl.Known) impl.Known { return impl.Learn(k, list("a\x00", list(key(e.Key)))) },
			func(k impl.Known) impl.Known { return impl.LearnKey(impl.Learn(k, impl.Seal(77, key(e.Key))), 77) },
		} {
			w := truthWorld(t)
			checkSaid(t, "nothing is reached", w, allTrue)
			w.Known = learn(w.Known)
			what := "way " + impl.Dec(how) + ", Event " + impl.Dec(i)
			checkSaid(t, what, w, not)
			for _, key := range append([]int{0, 31, 35, 39, e.Key}, keysFromTheBeginning...) {
				// Who has a key has those that were asked for with it, too: they hang on all that it hangs on.
				want := not
				if slices.Contains(roots, key) {
					want = allTrue
				}
				w.Leaked = []int{99, key}
				checkSaid(t, what+", leaked "+impl.Dec(key), w, want)
			}
		}
		w := truthWorld(t)
		w.Known = impl.Learn(w.Known, impl.Seal(78, key(e.Key)))
		checkSaid(t, "sealed with what is not reached", w, allTrue)
	}
	w := truthWorld(t)
	w.Log[0].Parent, w.Log = 0, append(w.Log, issue(0, 500, 499), impl.Event{Kind: 5, Key: 501}, delegate(0, 502, 502, w.Log[0].Key))
	w.Known.Keys = []int{499, 500, 501, 502, 503}
	checkSaid(t, "keys that hang on nothing", w, allTrue)
	// So does one that a key is not there for, whatever leaked: nothing is asked of it, nor of what was asked for with it.
	for _, e := range []impl.Event{login(6, 0, 500), login(0, 3, 500), issue(3, 500, 101), refer(0, 2, 500, 101), refer(3, 11, 500, 101), delegate(10, 500, 101, 101)} {
		w = truthWorld(t)
		e.Parent, w.Known.Keys = w.Log[0].Key, []int{500, 501}
		w.Log = append(w.Log, e, issue(0, 501, 500))
		for _, leaked := range [][]int{nil, {0}, {1}, {0, 11, 21}} {
			w.Leaked = leaked
			checkSaid(t, "a key that is not there", w, allTrue)
		}
	}
	// By its Parent a key in a user's name hangs on who asked, not on the user.
	w = truthWorld(t)
	w.Known.Keys = []int{w.Log[5].Key}
	for key, want := range map[int]said{1: not, 21: not, 38: not, 2: not, 11: allTrue, 12: allTrue, 22: allTrue} {
		w.Leaked = []int{key}
		checkSaid(t, "in a user's name, leaked "+impl.Dec(key), w, want)
	}
	// Of a key that stands twice the Roots are the first one's.
	w = truthWorld(t)
	w.Log = append(w.Log, login(2, 2, w.Log[6].Key))
	w.Known.Keys = []int{w.Log[6].Key}
	for key, want := range map[int]said{3: not, 23: not, 2: allTrue, 22: allTrue} {
		w.Leaked = []int{key}
		checkSaid(t, "a key twice, leaked "+impl.Dec(key), w, want)
	}
	// Leaked counts whenever it leaked, also behind all that was taken.
	w = truthWorld(t)
	w = checkDone(t, "a leak", w, act(impl.AcLeak, 1), 0)
	if !slices.Contains(impl.Reach(w.Known), w.Log[3].Key) || slices.Contains(impl.Reach(w.Known), w.Log[5].Key) {
		t.Errorf("%v", impl.Reach(w.Known))
	}
	checkSaid(t, "leaked behind it", w, allTrue)
	w.Leaked = nil
	checkSaid(t, "reached without a leak", w, not)
}

// adversary sends what it can put together, and has centres and services answer it.
type adversary struct {
	t *testing.T
	w impl.World
}

func (x *adversary) does(a impl.Act) {
	x.t.Helper()
	x.w = checkDone(x.t, "an adversary", x.w, a, 0)
	checkSaid(x.t, "an adversary", x.w, allTrue)
}

func (x *adversary) sends(text string) int {
	x.t.Helper()
	x.does(forging(text))
	return len(x.w.Net) - 1
}

// takes is the ticket of the last message, and its key.
func (x *adversary) takes(key int) (string, int) {
	x.t.Helper()
	parts := plainParts(x.w.Net[len(x.w.Net)-1], 3)
	g, ok := plainReadGrant(parts[2], key)
	if !ok || !slices.Contains(impl.Reach(x.w.Known), g.Key) {
		x.t.Fatalf("%d does not open %q", key, parts)
	}
	return parts[1], g.Key
}

func (x *adversary) logsIn(p, realm int) (string, int) {
	x.t.Helper()
	x.does(act(impl.AcCentre, realm, x.sends(impl.LoginReq(p, x.w.Now, 5))))
	return x.takes(plainKeyOf(p))
}

func (x *adversary) asks(realm, client int, ticket string, key, target int, evid string) (string, int) {
	x.t.Helper()
	x.does(act(impl.AcCentre, realm, x.sends(impl.AskReq(ticket, key, auth(client, x.w.Now, 1), target, rest(7, 255, 60), 6, evid))))
	return x.takes(key)
}

func (x *adversary) isServed(s, client int, ticket string, key int) {
	x.t.Helper()
	x.does(act(impl.AcServe, s, x.sends(list(impl.Nums([]int{4, s, 2}), ticket, rawAuth(auth(client, x.w.Now, 9), key)))))
}

// Of each kind of Concerns one leaks ahead of an Accept that nobody logged in for: it is not Honest. Were that leak none of its Concerns, it would be Honest, and not Authentic.
func TestWhatEachConcernIsFor(t *testing.T) {
	forged := func(client, service, sealed int) string {
		return rawTicket(impl.Ticket{Client: client, Service: service, Key: sealed, Rest: rest(7, 255, 40)}, sealed)
	}
	for _, x := range []struct {
		what   string
		leaked int
		attack func(x *adversary)
		chain  bool
	}{
		{"the Client's own key", 1, func(x *adversary) {
			s, k := x.logsIn(0, 0)
			s, k = x.asks(0, 0, s, k, 0, "")
			s, k = x.asks(2, 0, s, k, 0, "")
			s, k = x.asks(1, 0, s, k, 0, "")
			x.isServed(0, 0, s, k)
		}, true},
		{"the Server's key", 11, func(x *adversary) { x.isServed(0, 0, forged(0, 0, 11), 11) }, false},
		{"the centre of the Server's realm", 22, func(x *adversary) {
			s, k := x.asks(1, 0, forged(0, 11, 22), 22, 0, "")
			x.isServed(0, 0, s, k)
		}, false},
		{"the centre of the Client's realm", 21, func(x *adversary) {
			s, k := x.asks(0, 0, forged(0, 10, 21), 21, 0, "")
			s, k = x.asks(2, 0, s, k, 0, "")
			s, k = x.asks(1, 0, s, k, 0, "")
			x.isServed(0, 0, s, k)
		}, false},
		{"a centre in Path", 23, func(x *adversary) {
			s, k := x.asks(2, 0, forged(0, 12, 23), 23, 0, "")
			s, k = x.asks(1, 0, s, k, 0, "")
			x.isServed(0, 0, s, k)
		}, false},
		{"the link of a realm in Path to the Server's", 38, func(x *adversary) {
			s, k := x.asks(1, 0, forged(0, 11, 38), 38, 0, "")
			x.isServed(0, 0, s, k)
		}, false},
		{"the link of the Client's realm to one in Path", 33, func(x *adversary) {
			s, k := x.asks(2, 0, forged(0, 12, 33), 33, 0, "")
			s, k = x.asks(1, 0, s, k, 0, "")
			x.isServed(0, 0, s, k)
		}, false},
		{"the key of one in Via", 11, func(x *adversary) {
			s, k := x.logsIn(3, 1)
			s, k = x.asks(1, 3, s, k, 1, forged(0, 0, 11))
			x.isServed(1, 0, s, k)
		}, false},
	} {
		w, _ := impl.NewWorld(truthConfig())
		by := &adversary{t, w}
		by.does(act(impl.AcLeak, x.leaked))
		x.attack(by)
		w = by.w
		if len(w.Accepts) != 1 || w.Accepts[0].Client != 0 || impl.Honest(w, 0) || x.chain != (len(impl.Chain(w.Log, w.Accepts[0].Key)) > 0) {
			t.Fatalf("%s: %+v, %+v", x.what, w.Accepts, w.Log)
		}
		w.Accepts[0].Leaks = 0
		if got := checkTruth(t, x.what, w); !impl.Honest(w, 0) || got.authentic != x.chain || !got.narrow || !got.once || !got.secret {
			t.Errorf("%s, leaked behind it: %+v", x.what, got)
		}
	}
}

// seenTicket is one that was sent, and the key that it is sealed with; the tests know all of these.
type seenTicket struct {
	term   string
	ticket impl.Ticket
	sealed int
}

func seenTickets(w impl.World) []seenTicket {
	var l []seenTicket
	for _, s := range w.Net {
		parts, _ := impl.Parts(s)
		for _, part := range parts {
			if held, _ := plainTermOf(part); held.kind == 's' && held.n < 40 {
				if x, ok := plainReadTicket(part, held.n); ok {
					l = append(l, seenTicket{part, x, held.n})
				}
			}
		}
	}
	return l
}

func anyOf[T any](r *rand.Rand, l []T) T { return l[r.Intn(len(l))] }

// anyHeld is a ticket that was sent, or one that is put together with keys that are reached.
func anyHeld(r *rand.Rand, w impl.World, reached []int) (seenTicket, bool) {
	seen := seenTickets(w)
	seen = slices.DeleteFunc(seen, func(x seenTicket) bool { return r.Intn(8) > 0 && !slices.Contains(reached, x.ticket.Key) })
	if len(seen) > 0 && r.Intn(2) == 0 {
		return anyOf(r, seen), true
	}
	if len(w.Leaked) == 0 {
		return seenTicket{}, false
	}
	sealed := anyOf(r, w.Leaked)
	x := impl.Ticket{Client: r.Intn(6), Service: (sealed - 11) % 10 % 3, Key: anyOf(r, reached), Rest: rest(7, 255, 90), Path: anyThree(r)[:r.Intn(3)], Via: anyThree(r)[:r.Intn(3)]}
	if sealed > 20 {
		x.Service += 10
	}
	if sealed < 4 {
		x.Service = r.Intn(3)
	}
	return seenTicket{rawTicket(x, sealed), x, sealed}, true
}

// anyPlot is what an adversary sends with what it has come to: a login, a request to a service or to a centre, one of its own or one that was sent and that it changes, or one again.
func anyPlot(r *rand.Rand, w impl.World) string {
	reached := impl.Reach(w.Known)
	x, held := anyHeld(r, w, reached)
	a := auth(x.ticket.Client, max(0, w.Now+r.Intn(3)-1), r.Intn(4))
	evid := ""
	if other, ok := anyHeld(r, w, reached); ok && r.Intn(2) == 0 {
		evid = other.term
	}
	switch {
	case len(w.Net) == 0 || len(w.Leaked) > 0 && r.Intn(6) == 0:
		return impl.LoginReq(r.Intn(6), w.Now, r.Intn(200))
	case held && x.ticket.Service < 10:
		return list(impl.Nums([]int{4, x.ticket.Service, r.Intn(8)}), x.term, rawAuth(a, x.ticket.Key))
	case held && r.Intn(4) > 0:
		return impl.AskReq(x.term, x.ticket.Key, a, r.Intn(3), rest(7, 255, 40+r.Intn(60)), r.Intn(200), evid)
	}
	sent := anyOf(r, w.Net)
	parts, _ := impl.Parts(sent)
	if len(parts) == 5 && r.Intn(3) > 0 {
		numbers := plainNums(parts[0])
		numbers[1] = r.Intn(3)
		parts[0], parts[3] = impl.Nums(numbers), impl.ShowRest(rest(7, 255, 100000))
		if evid != "" {
			parts[4] = evid
		}
		return list(parts...)
	}
	return sent
}

// nextStep is that of who means well: a login, or what one does with the last Cred there is; a service that was asked with it asks on in that name.
func nextStep(r *rand.Rand, w impl.World) impl.Act {
	last := len(w.Creds) - 1
	if last < 0 || r.Intn(12) == 0 {
		return act(impl.AcLogin, r.Intn(3))
	}
	x, taken := w.Creds[last], len(w.Accepts)
	switch {
	case x.Service >= 10 && x.Owner >= 3 && taken > 0 && w.Accepts[taken-1].Server == x.Owner-3:
		return asking(x.Owner, last, r.Intn(2), taken, rest(7, 254, 99))
	case x.Service >= 10:
		return asking(x.Owner, last, r.Intn(2), 0, rest(7, 255, 60+r.Intn(60)))
	case taken > 0 && w.Accepts[taken-1].Key == x.Key:
		return act(impl.AcLogin, 3+w.Accepts[taken-1].Server)
	}
	return act(impl.AcApply, x.Owner, last, 1+r.Intn(7))
}

// anyPlayed is a script that an adversary has a hand in from some act on, sooner or later; say is called behind each act.
func anyPlayed(r *rand.Rand, c impl.Config, say func(w impl.World, a impl.Act, code int)) {
	w, _ := impl.NewWorld(c)
	code, calm := 0, 20*r.Intn(4)
	for i := range 120 {
		a, follows := followUp(w)
		switch {
		case follows && code == 0 && r.Intn(8) > 0:
		case i < calm || r.Intn(3) == 0:
			a = nextStep(r, w)
		case r.Intn(12) == 0:
			a = act(impl.AcLeak, anyOf(r, keysFromTheBeginning))
		case r.Intn(2) == 0:
			a = forging(anyPlot(r, w))
		default:
			a = newAct(r, w)
		}
		w, code = impl.WorldDo(w, a)
		say(w, a, code)
	}
}

// straightConfig has ways of two Links, and services that ask for each other.
func straightConfig(r *rand.Rand) impl.Config {
	c := truthConfig()
	c.Proxy, c.Skew = pairs(0, 1, 1, 0, 0, 0), r.Intn(21)
	if r.Intn(2) == 0 {
		c.Links = unlikePairs
	}
	return c
}

// Promise 11: behind every act, whatever leaks, is forged, doubled or lost.
func TestWhoWasWho(t *testing.T) {
	r := rand.New(rand.NewSource(113))
	count := map[string]int{}
	for i := range 200 {
		c := anyCentreConfig(r, 0)
		if i%2 == 0 {
			c = straightConfig(r)
		}
		var last impl.World
		var acts []impl.Act
		anyPlayed(r, c, func(w impl.World, a impl.Act, code int) {
			if got := saidOf(w); got != allTrue {
				t.Fatalf("behind %+v of %+v: %+v", append(acts, a), c, got)
			}
			if r.Intn(12) == 0 {
				checkTruth(t, "any play", w)
			}
			acts, last = append(acts, a), w
			if code == 0 {
				count["act "+impl.Dec(a.Kind)]++
			}
		})
		checkTruth(t, "any play", last)
		checkOnce(t, last)
		checkInTheNameOf(t, last)
		if w, _ := impl.Play(c, acts); !sameWorld(w, last) || saidOf(w) != allTrue {
			t.Fatalf("Play of %+v and %+v is something else", c, acts)
		}
		countPlay(count, last)
	}
	for _, what := range []string{
		"Honest", "Honest, though some had leaked", "Honest by way of others", "Honest in a user's name", "not Honest", "not Honest, and no Chain", "not Honest, no Chain, and by way of others", "not Honest, no Chain, in a user's name",
		"Honest, and leaked later", "reached", "not reached", "not reached, though some leaked",
	} {
		if count[what] < 25 {
			t.Errorf("too few are %s: %v", what, count)
		}
	}
	for kind := impl.AcTick; kind <= impl.AcRestart; kind++ {
		if count["act "+impl.Dec(kind)] < 100 {
			t.Errorf("too few acts of kind %d: %v", kind, count)
		}
	}
}

// countPlay says how much of each there was, so that a promise is not held of nothing.
func countPlay(count map[string]int, w impl.World) {
	for i, a := range w.Accepts {
		if !impl.Honest(w, i) {
			count["not Honest"]++
			if len(impl.Chain(w.Log, a.Key)) == 0 {
				count["not Honest, and no Chain"]++
				if len(a.Path) > 0 {
					count["not Honest, no Chain, and by way of others"]++
				}
				if len(a.Via) > 0 {
					count["not Honest, no Chain, in a user's name"]++
				}
			}
			continue
		}
		count["Honest"]++
		if a.Leaks > 0 {
			count["Honest, though some had leaked"]++
		}
		if len(a.Path) > 0 {
			count["Honest by way of others"]++
		}
		if len(a.Via) > 0 {
			count["Honest in a user's name"]++
		}
		if slices.ContainsFunc(plainConcerns(w.Config, a), func(key int) bool { return slices.Contains(w.Leaked, key) }) {
			count["Honest, and leaked later"]++
		}
	}
	reached := impl.Reach(w.Known)
	for _, e := range w.Log {
		switch {
		case slices.Contains(reached, e.Key):
			count["reached"]++
		case len(w.Leaked) > 0:
			count["not reached, though some leaked"]++
			fallthrough
		default:
			count["not reached"]++
		}
	}
}

// Worlds of plays with some numbers turned: what is said of them is what plain words say.
func TestTruthOfAnyTurnedWorld(t *testing.T) {
	r := rand.New(rand.NewSource(114))
	count := map[string]int{}
	for range 40 {
		var last impl.World
		anyPlayed(r, straightConfig(r), func(w impl.World, a impl.Act, code int) { last = w })
		for range 30 {
			w := copiedWorld(last)
			for range 1 + r.Intn(3) {
				turnAny(r, &w)
			}
			is := checkTruth(t, "turned", w)
			for what, yes := range map[string]bool{"authentic": is.authentic, "narrow": is.narrow, "once": is.once, "secret": is.secret} {
				count[what+map[bool]string{true: ": yes", false: ": no"}[yes]]++
			}
		}
	}
	for _, what := range []string{"authentic", "narrow", "once", "secret"} {
		if count[what+": yes"] < 100 || count[what+": no"] < 100 {
			t.Errorf("too few: %v", count)
		}
	}
}

func turnAny(r *rand.Rand, w *impl.World) {
	keys := []int{99}
	for _, e := range w.Log {
		keys = append(keys, e.Key)
	}
	n, k := r.Intn(8)-1, anyOf(r, keys)
	if len(w.Log) > 0 {
		e := &w.Log[r.Intn(len(w.Log))]
		anyOf(r, []func(){
			func() { e.Kind = n }, func() { e.Client = n }, func() { e.Service = n }, func() { e.By = n }, func() { e.Realm = n }, func() { e.Parent = k }, func() { e.Evid = k }, func() { e.Key = k }, func() { e.Rest = anyRest(r, 9) }, func() {},
		})()
	}
	if len(w.Accepts) > 0 {
		a, b := &w.Accepts[r.Intn(len(w.Accepts))], w.Accepts[r.Intn(len(w.Accepts))]
		anyOf(r, []func(){
			func() { a.Client = max(0, min(5, n)) }, func() { a.Server = max(0, min(2, n)) }, func() { a.Op = n }, func() { a.Now = 15 * n }, func() { a.Key = k }, func() { a.Rest = anyRest(r, 9) }, func() { a.Leaks = r.Intn(len(w.Leaked) + 1) }, func() { a.Auth = b.Auth }, func() { *a = copiedAccept(b) }, func() {},
		})()
	}
	anyOf(r, []func(){
		func() { w.Known = impl.LearnKey(w.Known, k) }, func() { w.Leaked = slices.Concat(w.Leaked, []int{anyOf(r, keysFromTheBeginning)}) }, func() { w.Now = n }, func() {}, func() {}, func() {},
	})()
}

func TestTruthKeepsNothing(t *testing.T) {
	w, other := truthWorld(t), someWorld(t)
	key := w.Accepts[1].Key
	chain, roots, concerns := impl.Chain(w.Log, key), impl.Roots(w.Config, w.Log, key), impl.Concerns(w.Config, w.Accepts[1])
	before := [][]int{slices.Clone(chain), slices.Clone(roots), slices.Clone(concerns)}
	// Who writes into an answer changes no later one.
	overwritten(chain[:cap(chain)], -7)
	overwritten(roots[:cap(roots)], -7)
	overwritten(concerns[:cap(concerns)], -7)
	checkTruth(t, "between", other)
	again := [][]int{impl.Chain(w.Log, key), impl.Roots(w.Config, w.Log, key), impl.Concerns(w.Config, w.Accepts[1])}
	if !reflect.DeepEqual(before, again) {
		t.Errorf("%v, then %v", before, again)
	}
	checkSaid(t, "again", w, allTrue)
}
