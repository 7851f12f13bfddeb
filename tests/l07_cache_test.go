package tests

import (
	"math"
	"math/rand"
	"slices"
	"testing"

	"loop.example/g00769/impl"
)

func auth(client, time, seq int) impl.Auth {
	return impl.Auth{Client: client, Time: time, Seq: seq}
}

func cache(quiet int, seen ...impl.Auth) impl.Cache {
	return impl.Cache{Quiet: quiet, Seen: seen}
}

// authsAt are right Auths with these Times, no two alike.
func authsAt(times ...int) []impl.Auth {
	var l []impl.Auth
	for i, time := range times {
		l = append(l, auth(i%6, time, i))
	}
	return l
}

// wrongAuths have one number each that is out of range.
func wrongAuths() []impl.Auth {
	return []impl.Auth{
		auth(-1, 10, 4), auth(6, 10, 4), auth(math.MinInt, 10, 4), auth(math.MaxInt, 10, 4),
		auth(1, -1, 4), auth(1, 100001, 4), auth(1, math.MinInt, 4), auth(1, math.MaxInt, 4),
		auth(1, 10, -1), auth(1, 10, 1000001), auth(1, 10, math.MinInt), auth(1, 10, math.MaxInt),
	}
}

func sameCache(a, b impl.Cache) bool {
	return a.Quiet == b.Quiet && slices.Equal(a.Seen, b.Seen)
}

func plainCacheOk(c impl.Cache) bool {
	if c.Quiet < -1 || c.Quiet > 200000 || len(c.Seen) > 6 {
		return false
	}
	for i, a := range c.Seen {
		if !plainAuthOk(a) || slices.Contains(c.Seen[i+1:], a) {
			return false
		}
	}
	return true
}

func plainMomentOk(now, skew int) bool {
	return now >= 0 && now <= 100000 && skew >= 0 && skew <= 20
}

// plainTry is what the document says of CacheTry, word by word.
func plainTry(c impl.Cache, a impl.Auth, now, skew int) (impl.Cache, int) {
	if !plainCacheOk(c) {
		return impl.Cache{}, 1
	}
	if !plainAuthOk(a) || !plainMomentOk(now, skew) {
		return c, 1
	}
	if now > a.Time+skew || a.Time > now+skew {
		return c, 2
	}
	if now <= c.Quiet {
		return c, 3
	}
	if slices.Contains(c.Seen, a) {
		return c, 4
	}
	var kept []impl.Auth
	for _, other := range c.Seen {
		if other.Time >= now-skew {
			kept = append(kept, other)
		}
	}
	if len(kept) == 6 {
		return c, 5
	}
	return impl.Cache{Quiet: c.Quiet, Seen: append(kept, a)}, 0
}

// checkTry holds an answer against plain words; asks that nothing is written into the Seen it is handed, nor behind it, and that the answer shares no memory with it.
func checkTry(t *testing.T, what string, c impl.Cache, a impl.Auth, now, skew int) (impl.Cache, int) {
	t.Helper()
	room := append(slices.Clone(c.Seen), authsAt(-7, -8, -9)...)
	before := slices.Clone(room)
	handed := impl.Cache{Quiet: c.Quiet, Seen: room[:len(c.Seen)]}
	got, code := impl.CacheTry(handed, a, now, skew)
	want, wanted := plainTry(c, a, now, skew)
	if code != wanted || !sameCache(got, want) {
		t.Fatalf("%s: CacheTry(%+v, %+v, %d, %d) = %+v, %d, not %+v, %d", what, c, a, now, skew, got, code, want, wanted)
	}
	answer := impl.Cache{Quiet: got.Quiet, Seen: slices.Clone(got.Seen)}
	if !slices.Equal(room, before) {
		t.Fatalf("%s: %+v was changed to %+v", what, before, room)
	}
	all := got.Seen[:cap(got.Seen)]
	for i := range all {
		all[i] = auth(-5, -5, -5)
	}
	_ = append(got.Seen, auth(-6, -6, -6))
	if !slices.Equal(room, before) {
		t.Fatalf("%s: what is answered to %+v shares memory with it", what, c)
	}
	return answer, code
}

func checkCode(t *testing.T, what string, c impl.Cache, a impl.Auth, now, skew, want int) {
	t.Helper()
	got, code := checkTry(t, what, c, a, now, skew)
	if code != want {
		t.Errorf("%s: the code is %d, not %d", what, code, want)
	}
	if code != impl.ClOk && impl.CacheOk(c) && !sameCache(got, c) {
		t.Errorf("%s: a refusal changed %+v to %+v", what, c, got)
	}
}

func checkCacheOk(t *testing.T, what string, c impl.Cache, want bool) {
	t.Helper()
	room := append(slices.Clone(c.Seen), authsAt(-7, -8)...)
	before := slices.Clone(room)
	if got := impl.CacheOk(impl.Cache{Quiet: c.Quiet, Seen: room[:len(c.Seen)]}); got != want || plainCacheOk(c) != want {
		t.Errorf("%s: CacheOk of %+v is %v, not %v", what, c, got, want)
	}
	if !slices.Equal(room, before) {
		t.Errorf("%s: %+v was changed to %+v", what, before, room)
	}
	got, code := checkTry(t, what, c, auth(1, 50000, 999), 50000, 3)
	if !want && (code != impl.ClBad || !sameCache(got, impl.Cache{})) {
		t.Errorf("%s: of what is not right comes %+v, %d", what, got, code)
	}
	if want && code == impl.ClBad {
		t.Errorf("%s: %+v is refused as not right", what, c)
	}
}

func TestCacheLimits(t *testing.T) {
	if impl.MaxSeen != 6 {
		t.Error(impl.MaxSeen)
	}
	codes := []int{impl.ClOk, impl.ClBad, impl.ClSkew, impl.ClQuiet, impl.ClReplay, impl.ClFull}
	if !slices.Equal(codes, []int{0, 1, 2, 3, 4, 5}) {
		t.Error(codes)
	}
}

func TestQuietOfACache(t *testing.T) {
	for quiet, want := range map[int]bool{
		math.MinInt: false, -100000: false, -2: false, -1: true, 0: true, 1: true, 100000: true, 100001: true, 100040: true, 100041: true,
		2*impl.MaxTime - 1: true, 2 * impl.MaxTime: true, 2*impl.MaxTime + 1: false, math.MaxInt: false,
	} {
		checkCacheOk(t, "nothing seen", cache(quiet), want)
		checkCacheOk(t, "nothing seen, not nil", impl.Cache{Quiet: quiet, Seen: []impl.Auth{}}, want)
		checkCacheOk(t, "some seen", cache(quiet, authsAt(0, 100000, 7)...), want)
	}
	checkCacheOk(t, "the zero one", impl.Cache{}, true)
}

func TestHowManyAreSeen(t *testing.T) {
	for count := range 20 {
		var times []int
		for i := range count {
			times = append(times, 50000+i%3)
		}
		checkCacheOk(t, "so many", cache(-1, authsAt(times...)...), count <= impl.MaxSeen)
	}
}

func TestSeenThatAreAlike(t *testing.T) {
	for count := 2; count <= 6; count++ {
		for i := range count {
			for j := range i {
				l := authsAt(1, 2, 3, 4, 5, 6)[:count]
				checkCacheOk(t, "unlike", cache(0, l...), true)
				l[i] = l[j]
				checkCacheOk(t, "two alike", cache(0, l...), false)
				l[i].Client = (l[j].Client + 1) % 6
				checkCacheOk(t, "another Client", cache(0, l...), true)
				l[i] = l[j]
				l[i].Time = 100000
				checkCacheOk(t, "another Time", cache(0, l...), true)
				l[i] = l[j]
				l[i].Seq = 1000000
				checkCacheOk(t, "another Seq", cache(0, l...), true)
			}
		}
	}
	checkCacheOk(t, "all alike", cache(0, slices.Repeat(authsAt(3), 6)...), false)
	checkCacheOk(t, "numbers that change places", cache(0, auth(1, 2, 3), auth(1, 3, 2), auth(2, 1, 3), auth(2, 3, 1), auth(3, 1, 2), auth(3, 2, 1)), true)
}

func TestSeenThatAreNotRight(t *testing.T) {
	for _, wrong := range wrongAuths() {
		for count := 1; count <= 6; count++ {
			for place := range count {
				l := authsAt(1, 2, 3, 4, 5, 6)[:count]
				l[place] = wrong
				checkCacheOk(t, "one that is not right", cache(3, l...), false)
			}
		}
	}
	edges := []impl.Auth{auth(0, 0, 0), auth(5, 0, 0), auth(0, 100000, 0), auth(0, 0, 1000000), auth(5, 100000, 1000000), auth(5, 100000, 0)}
	checkCacheOk(t, "the edges", cache(3, edges...), true)
}

func TestNewCache(t *testing.T) {
	c := impl.NewCache()
	if c.Quiet != -1 || len(c.Seen) != 0 || !impl.CacheOk(c) {
		t.Errorf("%+v", c)
	}
	_ = append(c.Seen, auth(1, 2, 3))
	if again := impl.NewCache(); !sameCache(again, cache(-1)) {
		t.Errorf("kept: %+v", again)
	}
	checkCode(t, "the first time", c, auth(0, 0, 0), 0, 0, impl.ClOk)
}

func TestRestart(t *testing.T) {
	times := []int{math.MinInt, -100000, -2, -1, 0, 1, 12, 99999, 100000, 100001, 200000, math.MaxInt}
	skews := []int{math.MinInt, -21, -1, 0, 1, 3, 19, 20, 21, 22, 100, math.MaxInt}
	for _, now := range times {
		for _, skew := range skews {
			want := cache(-1)
			if plainMomentOk(now, skew) {
				want.Quiet = now + skew + skew
			}
			if got := impl.Restart(now, skew); !sameCache(got, want) || !impl.CacheOk(got) {
				t.Errorf("Restart(%d, %d) = %+v, not %+v", now, skew, got, want)
			}
		}
	}
	for _, x := range [][3]int{{-1, 3, -1}, {0, 0, 0}, {0, 20, 40}, {12, 3, 18}, {100000, 20, 100040}, {100001, 3, -1}, {5, -1, -1}, {5, 21, -1}} {
		if got := impl.Restart(x[0], x[1]); got.Quiet != x[2] {
			t.Errorf("Restart(%d, %d): Quiet is %d, not %d", x[0], x[1], got.Quiet, x[2])
		}
	}
}

func TestTryOfWhatIsNotRight(t *testing.T) {
	right := cache(5, authsAt(6, 7, 8)...)
	for _, a := range wrongAuths() {
		checkCode(t, "an Auth that is not right", right, a, 10, 3, impl.ClBad)
	}
	for _, now := range []int{math.MinInt, -100000, -1, 100001, 200000, math.MaxInt} {
		for _, time := range []int{0, 10, 100000} {
			checkCode(t, "no time", right, auth(1, time, 4), now, 3, impl.ClBad)
		}
	}
	for _, skew := range []int{math.MinInt, -20, -1, 21, 22, 100000, math.MaxInt} {
		checkCode(t, "no skew", right, auth(1, 10, 4), 10, skew, impl.ClBad)
	}
	wrong := []impl.Cache{cache(-2), cache(200001), cache(0, authsAt(1, 2, 3, 4, 5, 6, 7)...), cache(0, auth(1, 2, 3), auth(1, 2, 3)), cache(0, auth(6, 2, 3)), cache(-2, right.Seen...)}
	for _, c := range wrong {
		got, code := checkTry(t, "a Cache that is not right", c, auth(1, 10, 4), 10, 3)
		if code != impl.ClBad || got.Quiet != 0 || len(got.Seen) != 0 {
			t.Errorf("of %+v comes %+v, %d", c, got, code)
		}
	}
}

func TestTryAsFarAsSkewSays(t *testing.T) {
	for _, skew := range []int{0, 1, 3, 19, 20} {
		for _, now := range []int{0, 1, skew, skew + 1, 500, 100000 - skew, 99999, 100000} {
			for away := -skew - 2; away <= skew+2; away++ {
				want := impl.ClOk
				if away < -skew || away > skew {
					want = impl.ClSkew
				}
				if now+away < 0 || now+away > 100000 {
					want = impl.ClBad
				}
				checkCode(t, "so far away", impl.NewCache(), auth(2, now+away, 9), now, skew, want)
			}
		}
	}
	checkCode(t, "as far as can be", impl.NewCache(), auth(2, 100000, 9), 0, 20, impl.ClSkew)
	checkCode(t, "as far as can be, behind", impl.NewCache(), auth(2, 0, 9), 100000, 20, impl.ClSkew)
}

func TestTryAtQuietAndBehindIt(t *testing.T) {
	for _, quiet := range []int{-1, 0, 1, 18, 99998, 99999, 100000, 100040, 200000} {
		for _, now := range []int{0, 1, 2, 17, 18, 19, 20, 99998, 99999, 100000} {
			want := impl.ClOk
			if now <= quiet {
				want = impl.ClQuiet
			}
			for _, skew := range []int{0, 3} {
				checkCode(t, "nothing seen", cache(quiet), auth(1, now, 7), now, skew, want)
				checkCode(t, "some seen", cache(quiet, authsAt(0, 18, 100000)...), auth(1, now, 7), now, skew, want)
			}
		}
	}
	// It is the time that is quiet, not that of the Auth.
	checkCode(t, "an Auth of the quiet", cache(18), auth(1, 16, 7), 19, 3, impl.ClOk)
	checkCode(t, "an Auth of behind it", cache(18), auth(1, 21, 7), 18, 3, impl.ClQuiet)
	if c, _ := impl.CacheTry(cache(18), auth(1, 16, 7), 19, 3); c.Quiet != 18 {
		t.Errorf("Quiet behind what was taken is %d", c.Quiet)
	}
}

func TestTryOfWhatIsSeen(t *testing.T) {
	l := []impl.Auth{auth(0, 10, 0), auth(1, 11, 1), auth(2, 12, 2), auth(3, 13, 3), auth(4, 14, 4), auth(5, 15, 5)}
	for count := 1; count <= 6; count++ {
		for place := range count {
			c := cache(-1, l[:count]...)
			checkCode(t, "seen", c, l[place], 12, 5, impl.ClReplay)
			checkCode(t, "seen, at its last time", c, l[place], l[place].Time+5, 5, impl.ClReplay)
			checkCode(t, "seen, and too old", c, l[place], l[place].Time+6, 5, impl.ClSkew)
		}
	}
	c := cache(-1, auth(1, 10, 4))
	checkCode(t, "another Client", c, auth(2, 10, 4), 10, 5, impl.ClOk)
	checkCode(t, "another Time", c, auth(1, 11, 4), 10, 5, impl.ClOk)
	checkCode(t, "another Seq", c, auth(1, 10, 5), 10, 5, impl.ClOk)
	checkCode(t, "numbers that change places", cache(-1, auth(1, 4, 5)), auth(1, 5, 4), 5, 5, impl.ClOk)
}

// Of six that are seen each choice has gone; those that have not stay in their order.
func TestTryWhereSomeHaveGone(t *testing.T) {
	a := auth(4, 50, 77)
	for count := range 7 {
		for bits := range 1 << count {
			l := authsAt(47, 53, 48, 47, 50, 60)[:count]
			var kept []impl.Auth
			for i := range l {
				if bits>>i&1 == 1 {
					l[i].Time = 46 - i
				} else {
					kept = append(kept, l[i])
				}
			}
			got, code := checkTry(t, "some have gone", cache(2, l...), a, 50, 3)
			if len(kept) == 6 {
				if code != impl.ClFull || !sameCache(got, cache(2, l...)) {
					t.Errorf("none of %+v has gone: %+v, %d", l, got, code)
				}
				continue
			}
			if code != impl.ClOk || !sameCache(got, cache(2, append(kept, a)...)) {
				t.Errorf("of %+v: %+v, %d", l, got, code)
			}
		}
	}
}

func TestTryAtTheTimeWhenOneGoes(t *testing.T) {
	for _, skew := range []int{0, 1, 3, 20} {
		for _, now := range []int{20, 21, 50, 100000} {
			// Nothing that is right is older than 0.
			edge := now - skew
			others := authsAt(now, now, now, now, now)
			stays := append(slices.Clone(others), auth(5, edge, 1000))
			checkCode(t, "just now less skew", cache(-1, stays...), auth(0, now, 2000), now, skew, impl.ClFull)
			if edge == 0 {
				continue
			}
			gone := append(slices.Clone(others), auth(5, edge-1, 1000))
			got, code := checkTry(t, "one less", cache(-1, gone...), auth(0, now, 2000), now, skew)
			if code != impl.ClOk || !slices.Equal(got.Seen, append(others, auth(0, now, 2000))) {
				t.Errorf("skew %d at %d: %+v, %d", skew, now, got, code)
			}
		}
	}
	checkCode(t, "less than no time", cache(-1, authsAt(0, 0, 0, 0, 0, 0)...), auth(5, 0, 99), 3, 20, impl.ClFull)
	checkCode(t, "six that are far ahead", cache(-1, authsAt(100000, 99999, 90000, 100000, 60000, 70000)...), auth(5, 3, 99), 3, 20, impl.ClFull)
	checkCode(t, "five that are far ahead", cache(-1, authsAt(100000, 99999, 90000, 100000, 60000)...), auth(5, 3, 99), 3, 20, impl.ClOk)
}

func TestSixAreTakenAndNoMore(t *testing.T) {
	c, l := impl.NewCache(), authsAt(12, 10, 14, 9, 12, 15)
	for i, a := range l {
		next, code := checkTry(t, "one more", c, a, 12, 3)
		if code != impl.ClOk || !slices.Equal(next.Seen, l[:i+1]) {
			t.Fatalf("%d: %+v, %d", i, next, code)
		}
		c = next
	}
	checkCode(t, "a seventh", c, auth(1, 12, 100), 12, 3, impl.ClFull)
	got, code := checkTry(t, "one has gone", c, auth(1, 12, 100), 13, 3)
	if code != impl.ClOk || !slices.Equal(got.Seen, append(slices.Delete(slices.Clone(l), 3, 4), auth(1, 12, 100))) {
		t.Errorf("one has gone: %+v, %d", got, code)
	}
	got, code = checkTry(t, "all have gone", c, auth(1, 50, 100), 50, 3)
	if code != impl.ClOk || !slices.Equal(got.Seen, []impl.Auth{auth(1, 50, 100)}) {
		t.Errorf("all have gone: %+v, %d", got, code)
	}
}

// Each choice of reasons is put together, and the one that the document names first is answered.
func TestWhichReasonIsAnswered(t *testing.T) {
	// What is seen is put there ahead of what spoils the Auth, so that the Cache stays right.
	reasons := []func(c *impl.Cache, a *impl.Auth, now, skew *int) int{
		func(c *impl.Cache, a *impl.Auth, now, skew *int) int {
			c.Seen = append(c.Seen, auth(0, 98, 600))
			return impl.ClFull
		},
		func(c *impl.Cache, a *impl.Auth, now, skew *int) int { c.Seen[2] = *a; return impl.ClReplay },
		func(c *impl.Cache, a *impl.Auth, now, skew *int) int { c.Quiet = 106; return impl.ClQuiet },
		func(c *impl.Cache, a *impl.Auth, now, skew *int) int { *skew = 2; return impl.ClSkew },
		func(c *impl.Cache, a *impl.Auth, now, skew *int) int { *skew = 21; return impl.ClBad },
		func(c *impl.Cache, a *impl.Auth, now, skew *int) int { *now = -1; return impl.ClBad },
		func(c *impl.Cache, a *impl.Auth, now, skew *int) int { a.Client = 6; return impl.ClBad },
		func(c *impl.Cache, a *impl.Auth, now, skew *int) int { c.Quiet = -2; return impl.ClBad },
	}
	for bits := range 1 << len(reasons) {
		c, a, now, skew := cache(-1, authsAt(98, 102, 100, 101, 120)...), auth(3, 103, 500), 100, 3
		want := impl.ClOk
		for i, reason := range reasons {
			if bits>>i&1 == 1 {
				want = reason(&c, &a, &now, &skew)
			}
		}
		got, code := checkTry(t, "reasons", c, a, now, skew)
		if code != want {
			t.Errorf("reasons %08b: %d, not %d", bits, code, want)
		}
		as := c
		if c.Quiet == -2 {
			as = impl.Cache{}
		}
		if want != impl.ClOk && !sameCache(got, as) {
			t.Errorf("reasons %08b: a refusal of %+v comes with %+v", bits, c, got)
		}
	}
}

func TestWhatWasTakenIsNotTakenAgain(t *testing.T) {
	for _, skew := range []int{0, 1, 2, 5, 20} {
		for _, now := range []int{0, 1, 40, 99950, 100000} {
			for time := max(0, now-skew); time <= min(100000, now+skew); time++ {
				a := auth(3, time, 9)
				c, code := impl.CacheTry(cache(-1, authsAt(max(0, now-skew), now)...), a, now, skew)
				if code != impl.ClOk {
					t.Fatalf("skew %d: %+v at %d: %d", skew, a, now, code)
				}
				checkNeverAgain(t, c, a, now, skew)
			}
		}
	}
}

// checkNeverAgain asks at each later time the Cache behind it, Restart of when it was taken, and Restart of a later time.
func checkNeverAgain(t *testing.T, c impl.Cache, a impl.Auth, now, skew int) {
	t.Helper()
	for later := now; later <= min(100000, now+3*skew+3); later++ {
		for what, x := range map[string]impl.Cache{
			"the Cache behind it": c, "Restart": impl.Restart(now, skew), "Restart later": impl.Restart(later, skew),
			"Restart between": impl.Restart((now+later)/2, skew),
		} {
			got, code := impl.CacheTry(x, a, later, skew)
			if code == impl.ClOk || !sameCache(got, x) {
				t.Fatalf("%s: skew %d: %+v, taken at %d, is tried at %d: %+v, %d", what, skew, a, now, later, got, code)
			}
		}
	}
	// What it holds is held at earlier times and with each other skew as well.
	for other := range 21 {
		for later := max(0, now-25); later <= min(100000, now+25); later++ {
			if _, code := impl.CacheTry(c, a, later, other); code == impl.ClOk {
				t.Fatalf("skew %d: %+v, taken at %d, is taken again at %d with skew %d", skew, a, now, later, other)
			}
		}
	}
}

// As time goes on, with one skew, nothing is taken twice, whatever else is tried and however often it begins anew.
func TestNothingIsTakenTwiceAsTimeGoesOn(t *testing.T) {
	r := rand.New(rand.NewSource(7))
	taken, codes := 0, map[int]int{}
	for range 1500 {
		skew, now, c := r.Intn(6), []int{0, 5, 50, 99980}[r.Intn(4)], impl.NewCache()
		was := map[impl.Auth]bool{}
		for range 60 {
			if r.Intn(4) == 0 {
				now = min(100000, now+r.Intn(3))
			}
			if r.Intn(40) == 0 {
				c = impl.Restart(now, skew)
			}
			a := auth(r.Intn(2), max(0, min(100000, now-skew-1+r.Intn(2*skew+3))), r.Intn(2))
			next, code := checkTry(t, "as time goes on", c, a, now, skew)
			codes[code]++
			if code == impl.ClOk && was[a] {
				t.Fatalf("skew %d: %+v is taken again at %d by %+v", skew, a, now, c)
			}
			if code == impl.ClOk {
				was[a] = true
				taken++
			} else if !sameCache(next, c) {
				t.Fatalf("a refusal changed %+v to %+v", c, next)
			}
			if !impl.CacheOk(next) {
				t.Fatalf("behind %+v comes %+v, which is not right", c, next)
			}
			c = next
		}
	}
	if taken < 1000 || codes[impl.ClSkew] < 1000 || codes[impl.ClQuiet] < 1000 || codes[impl.ClReplay] < 1000 || codes[impl.ClFull] < 1000 {
		t.Errorf("too few of a kind: %v", codes)
	}
}

func anyAuthNear(r *rand.Rand, time, wrong int) impl.Auth {
	return auth(numberNear(r, 0, 5, wrong), max(0, time-5+r.Intn(11)), numberNear(r, 0, 2, 0))
}

func TestTryOfAnyCache(t *testing.T) {
	r := rand.New(rand.NewSource(70))
	codes := map[int]int{}
	for i := range 60000 {
		wrong := []int{0, 0, 0, 30}[i%4]
		now := []int{0, 3, 1000, 99997, 100000, 100000 + i%2}[r.Intn(6)]
		c := cache([]int{-1, -1, now - 1, now, now + 1, numberNear(r, -1, 200000, wrong)}[r.Intn(6)])
		for range r.Intn(8) {
			if a := anyAuthNear(r, now, wrong); wrong > 0 || !slices.Contains(c.Seen, a) {
				c.Seen = append(c.Seen, a)
			}
		}
		a := anyAuthNear(r, now, wrong)
		if len(c.Seen) > 0 && r.Intn(4) == 0 {
			a = c.Seen[r.Intn(len(c.Seen))]
		}
		_, code := checkTry(t, "any", c, a, now, []int{numberNear(r, 0, 20, wrong), 2, 3}[r.Intn(3)])
		codes[code]++
	}
	for code := range 6 {
		if codes[code] < 500 {
			t.Errorf("too few of code %d: %v", code, codes)
		}
	}
}

func TestCachesKeepNothing(t *testing.T) {
	c, a := cache(-1, authsAt(10, 11)...), auth(3, 12, 9)
	first, _ := impl.CacheTry(c, a, 12, 3)
	second, code := impl.CacheTry(c, a, 12, 3)
	if code != impl.ClOk || !sameCache(first, second) {
		t.Errorf("the same try twice: %+v, then %+v, %d", first, second, code)
	}
	first.Seen[0] = auth(0, 0, 0)
	_ = append(first.Seen, auth(1, 1, 1))
	third, code := impl.CacheTry(c, a, 12, 3)
	if code != impl.ClOk || !sameCache(third, second) {
		t.Errorf("two answers share memory: %+v and %+v", second, third)
	}
	// Two that go on from one Cache do not write into each other.
	left, _ := impl.CacheTry(second, auth(4, 12, 1), 12, 3)
	right, _ := impl.CacheTry(second, auth(5, 12, 2), 12, 3)
	if left.Seen[3] != auth(4, 12, 1) || right.Seen[3] != auth(5, 12, 2) || len(second.Seen) != 3 {
		t.Errorf("%+v and %+v go on from %+v", left, right, second)
	}
}
