package tests

import (
	"math"
	"math/big"
	"math/rand"
	"slices"
	"strings"
	"testing"

	"loop.example/g00769/impl"
)

func times(auth, start, end, renew int) impl.Times {
	return impl.Times{Auth: auth, Start: start, End: end, Renew: renew}
}

// Times by plain words, in numbers without bounds: what the tests hold the program's answers against.

func plainInOrder(numbers ...*big.Int) bool {
	return slices.IsSortedFunc(numbers, func(a, b *big.Int) int { return a.Cmp(b) })
}

func whole(n int) *big.Int { return big.NewInt(int64(n)) }

func plainTimesOk(x impl.Times) bool {
	return plainInOrder(whole(0), whole(x.Auth), whole(x.Start), whole(x.End), whole(x.Renew), whole(100000))
}

func plainLives(x impl.Times, now, skew int) bool {
	if !plainTimesOk(x) || !plainInOrder(whole(0), whole(skew), whole(100)) {
		return false
	}
	first := new(big.Int).Sub(whole(x.Start), whole(skew))
	last := new(big.Int).Add(whole(x.End), whole(skew))
	return plainInOrder(first, whole(now), last)
}

func plainLesser(a, b *big.Int) *big.Int {
	if a.Cmp(b) < 0 {
		return a
	}
	return b
}

func plainRenewed(x impl.Times, now, life int) (impl.Times, bool) {
	if !plainTimesOk(x) || !plainInOrder(whole(x.Start), whole(now), whole(x.End)) || !plainInOrder(whole(1), whole(life)) {
		return impl.Times{}, false
	}
	end := plainLesser(new(big.Int).Add(whole(now), whole(life)), whole(x.Renew))
	return times(x.Auth, now, int(end.Int64()), x.Renew), true
}

func plainWithin(parent, want impl.Times) (impl.Times, bool) {
	if !plainTimesOk(parent) || !plainTimesOk(want) {
		return impl.Times{}, false
	}
	x := parent
	if want.Start > x.Start {
		x.Start = want.Start
	}
	if want.End < x.End {
		x.End = want.End
	}
	if want.Renew < x.Renew {
		x.Renew = want.Renew
	}
	if !plainTimesOk(x) {
		return impl.Times{}, false
	}
	return x, true
}

func plainShowTimes(x impl.Times) string {
	if !plainTimesOk(x) {
		return ""
	}
	return "l\x04" + impl.Num(x.Auth) + impl.Num(x.Start) + impl.Num(x.End) + impl.Num(x.Renew)
}

func plainReadTimes(s string) (impl.Times, bool) {
	l := plainNums(s)
	if len(l) != 4 || !plainTimesOk(times(l[0], l[1], l[2], l[3])) {
		return impl.Times{}, false
	}
	return times(l[0], l[1], l[2], l[3]), true
}

func checkTimesOk(t *testing.T, what string, x impl.Times, want bool) {
	t.Helper()
	if plainTimesOk(x) != want {
		t.Fatalf("%s: %+v is not what the test takes it for", what, x)
	}
	if got := impl.TimesOk(x); got != want {
		t.Errorf("%s: TimesOk(%+v) = %v", what, x, got)
	}
}

func checkLives(t *testing.T, what string, x impl.Times, now, skew int, want bool) {
	t.Helper()
	if got := impl.Lives(x, now, skew); got != want {
		t.Errorf("%s: Lives(%+v, %d, %d) = %v", what, x, now, skew, got)
	}
	if plainLives(x, now, skew) != want {
		t.Errorf("%s: the chapter says of %+v at %d, %d: %v", what, x, now, skew, !want)
	}
}

// checkRenewed asks, too, for promise 16.
func checkRenewed(t *testing.T, what string, x impl.Times, now, life int) (impl.Times, bool) {
	t.Helper()
	got, ok := impl.Renewed(x, now, life)
	if want, is := plainRenewed(x, now, life); got != want || ok != is {
		t.Errorf("%s: Renewed(%+v, %d, %d) = %+v, %v, want %+v, %v", what, x, now, life, got, ok, want, is)
	}
	if ok && (!plainTimesOk(got) || got.End > x.Renew || got.Renew != x.Renew || got.Auth != x.Auth) {
		t.Errorf("%s: Renewed(%+v, %d, %d) = %+v goes past it", what, x, now, life, got)
	}
	return got, ok
}

// checkInside asks, too, for promise 16: each moment at which it lives is one at which both live.
func checkInside(t *testing.T, what string, parent, want impl.Times) (impl.Times, bool) {
	t.Helper()
	got, ok := impl.Inside(parent, want)
	if x, is := plainWithin(parent, want); got != x || ok != is {
		t.Errorf("%s: Inside(%+v, %+v) = %+v, %v, want %+v, %v", what, parent, want, got, ok, x, is)
	}
	if !ok {
		return got, ok
	}
	for _, x := range []impl.Times{parent, want} {
		if got.Start < x.Start || got.End > x.End || got.Renew > x.Renew {
			t.Errorf("%s: Inside(%+v, %+v) = %+v is not within %+v", what, parent, want, got, x)
		}
	}
	if got.Auth != parent.Auth || !impl.TimesOk(got) {
		t.Errorf("%s: Inside(%+v, %+v) = %+v", what, parent, want, got)
	}
	return got, ok
}

func checkReadTimes(t *testing.T, what, s string, want impl.Times, wantOk bool) {
	t.Helper()
	if got, ok := impl.ReadTimes(s); got != want || ok != wantOk {
		t.Errorf("%s: ReadTimes(%q) = %+v, %v, want %+v, %v", what, s, got, ok, want, wantOk)
	}
}

func checkShownTimes(t *testing.T, x impl.Times) {
	t.Helper()
	s := impl.ShowTimes(x)
	if s != plainShowTimes(x) {
		t.Errorf("ShowTimes(%+v) = %q, want %q", x, s, plainShowTimes(x))
	}
	if s != "" {
		checkReadTimes(t, "as they were", s, x, true)
	}
}

// Times that are not right, many of them for one reason alone; but for it they would be good for long.
func wrongTimes() []impl.Times {
	l := []impl.Times{
		times(-1, 10, 20, 50), times(-1, -1, 20, 50), times(-1, 0, 0, 0), times(-1, -1, -1, -1), times(-4, -3, -2, -1),
		times(5, 4, 20, 50), times(1, 0, 100000, 100000), times(100000, 99999, 100000, 100000), times(0, -1, 20, 50), times(0, -1, -1, -1),
		times(5, 10, 9, 50), times(0, 1, 0, 100000), times(0, 100000, 99999, 100000), times(0, 0, -1, 50), times(0, 0, -1, -1),
		times(5, 10, 20, 19), times(0, 0, 1, 0), times(0, 0, 100000, 99999), times(0, 0, 0, -1),
		times(5, 10, 20, 100001), times(0, 0, 0, 100001), times(5, 10, 100001, 100001), times(5, 100001, 100001, 100001), times(100001, 100001, 100001, 100001),
		times(50, 20, 10, 5), times(0, 0, 5, 0), times(5, 0, 0, 0), times(0, 5, 0, 0),
	}
	for _, n := range []int{math.MinInt, math.MinInt + 1, math.MinInt + 100, math.MaxInt, math.MaxInt - 1, math.MaxInt - 100, 1 << 32, 1<<32 + 15, -1 << 32} {
		l = append(l, times(n, 10, 20, 50), times(5, n, 20, 50), times(5, 10, n, 50), times(5, 10, 20, n), times(n, n, n, n), times(0, 0, n, n), times(0, 0, 0, n))
	}
	return l
}

func rightOnes() []impl.Times {
	return []impl.Times{
		{}, times(5, 10, 20, 50), times(5, 5, 20, 50), times(5, 10, 10, 50), times(5, 10, 20, 20), times(5, 5, 5, 5), times(0, 0, 0, 1), times(0, 0, 1, 1), times(0, 1, 1, 1),
		times(0, 0, 0, 100000), times(0, 0, 100000, 100000), times(0, 100000, 100000, 100000), times(100000, 100000, 100000, 100000), times(0, 10, 20, 100000), times(1, 127, 128, 16384), times(99997, 99998, 99999, 100000),
	}
}

// smallTimes calls say with all times of numbers from least to greatest, right or not.
func smallTimes(least, greatest int, say func(impl.Times)) {
	for auth := least; auth <= greatest; auth++ {
		for start := least; start <= greatest; start++ {
			for end := least; end <= greatest; end++ {
				for renew := least; renew <= greatest; renew++ {
					say(times(auth, start, end, renew))
				}
			}
		}
	}
}

// anyTimes are right, but for one number now and then where wrong is above 0.
func anyTimes(r *rand.Rand, wrong int) impl.Times {
	most := []int{10, 300, 100000}[r.Intn(3)]
	l := []int{numberNear(r, 0, most, 0), numberNear(r, 0, most, 0), numberNear(r, 0, most, 0), numberNear(r, 0, most, 0)}
	slices.Sort(l)
	if wrong > 0 && r.Intn(wrong) == 0 {
		odd := []int{-1, 100001, math.MinInt, math.MaxInt, l[r.Intn(4)] - 1, l[r.Intn(4)] + 1}
		l[r.Intn(4)] = odd[r.Intn(len(odd))]
	}
	return times(l[0], l[1], l[2], l[3])
}

// Numbers at which a moment, a skew or a life could go wrong.
func farNumbers() []int {
	return []int{math.MinInt, math.MinInt + 1, math.MinInt + 100, math.MinInt + 100000, -100001, -100000, -101, -100, -1,
		100000, 100001, 100101, 1 << 31, 1 << 32, 1<<32 + 10, 1 << 62, math.MaxInt - 100001, math.MaxInt - 100000, math.MaxInt - 100, math.MaxInt - 20, math.MaxInt - 1, math.MaxInt}
}

func TestTimesOk(t *testing.T) {
	for _, x := range rightOnes() {
		checkTimesOk(t, "right", x, true)
	}
	for _, x := range wrongTimes() {
		checkTimesOk(t, "not right", x, false)
	}
	for _, c := range []struct {
		what string
		x    impl.Times
		want bool
	}{
		{"all at 0", times(0, 0, 0, 0), true},
		{"Auth at 0", times(0, 10, 20, 50), true},
		{"Auth below 0", times(-1, 10, 20, 50), false},
		{"Start at Auth", times(5, 5, 20, 50), true},
		{"Start one before Auth", times(5, 4, 20, 50), false},
		{"End at Start", times(5, 10, 10, 50), true},
		{"End one before Start", times(5, 10, 9, 50), false},
		{"End before Start, and at Auth", times(5, 10, 5, 50), false},
		{"Renew at End", times(5, 10, 20, 20), true},
		{"Renew one before End", times(5, 10, 20, 19), false},
		{"Renew before End, and at Start", times(5, 10, 20, 10), false},
		{"Renew at MaxTime", times(5, 10, 20, 100000), true},
		{"Renew one past MaxTime", times(5, 10, 20, 100001), false},
		{"all at MaxTime", times(100000, 100000, 100000, 100000), true},
		{"all one past MaxTime", times(100001, 100001, 100001, 100001), false},
		{"Auth as great as an int goes", times(math.MaxInt, 10, 20, 50), false},
		{"Auth as small as an int goes", times(math.MinInt, 10, 20, 50), false},
		{"Start as great as an int goes", times(5, math.MaxInt, 20, 50), false},
		{"Start as small as an int goes", times(5, math.MinInt, 20, 50), false},
		{"End as great as an int goes", times(5, 10, math.MaxInt, 50), false},
		{"End as small as an int goes", times(5, 10, math.MinInt, 50), false},
		{"Renew as great as an int goes", times(5, 10, 20, math.MaxInt), false},
		{"Renew as small as an int goes", times(5, 10, 20, math.MinInt), false},
	} {
		checkTimesOk(t, c.what, c.x, c.want)
	}
}

func TestTimesOkOfAllSmallOnes(t *testing.T) {
	smallTimes(-2, 4, func(x impl.Times) {
		checkTimesOk(t, "small", x, plainTimesOk(x))
	})
	smallTimes(99997, 100002, func(x impl.Times) {
		checkTimesOk(t, "great", x, plainTimesOk(x))
	})
}

func TestLives(t *testing.T) {
	x := times(5, 10, 20, 50)
	for _, c := range []struct {
		what      string
		now, skew int
		want      bool
	}{
		{"between", 15, 0, true},
		{"at Start", 10, 0, true},
		{"one before Start", 9, 0, false},
		{"at End", 20, 0, true},
		{"one past End", 21, 0, false},
		{"at Start less skew", 7, 3, true},
		{"one before Start less skew", 6, 3, false},
		{"at End and skew", 23, 3, true},
		{"one past End and skew", 24, 3, false},
		{"before Auth, by skew", 4, 6, true},
		{"past End, before Renew", 30, 5, false},
		{"at Renew", 50, 0, false},
		{"at 0, by skew", 0, 10, true},
		{"before 0, by skew", -90, 100, true},
		{"one before Start less the greatest skew", -91, 100, false},
		{"at End and the greatest skew", 120, 100, true},
		{"one past End and the greatest skew", 121, 100, false},
		{"skew -1", 15, -1, false},
		{"skew -1, at Start", 10, -1, false},
		{"skew 100", 15, 100, true},
		{"skew 101", 15, 101, false},
		{"skew as great as an int goes", 15, math.MaxInt, false},
		{"skew as small as an int goes", 15, math.MinInt, false},
		{"now as great as an int goes", math.MaxInt, 0, false},
		{"now as small as an int goes", math.MinInt, 0, false},
		{"now as great as an int goes, by skew", math.MaxInt, 100, false},
		{"now as small as an int goes, by skew", math.MinInt, 100, false},
		{"both as great as an int goes", math.MaxInt, math.MaxInt, false},
		{"both as small as an int goes", math.MinInt, math.MinInt, false},
	} {
		checkLives(t, c.what, x, c.now, c.skew, c.want)
	}
	checkLives(t, "a moment alone", times(7, 7, 7, 7), 7, 0, true)
	checkLives(t, "a moment alone, one before", times(7, 7, 7, 7), 6, 0, false)
	checkLives(t, "a moment alone, one past", times(7, 7, 7, 7), 8, 0, false)
	checkLives(t, "at MaxTime", times(0, 0, 100000, 100000), 100000, 0, true)
	checkLives(t, "past MaxTime, by skew", times(0, 0, 100000, 100000), 100100, 100, true)
	checkLives(t, "one past MaxTime and the greatest skew", times(0, 0, 100000, 100000), 100101, 100, false)
}

func TestLivesOfAllSmallOnes(t *testing.T) {
	smallTimes(-1, 4, func(x impl.Times) {
		for now := -4; now <= 8; now++ {
			for skew := -1; skew <= 2; skew++ {
				checkLives(t, "small", x, now, skew, plainLives(x, now, skew))
			}
		}
	})
}

func TestLivesOfWrongOnes(t *testing.T) {
	for _, x := range wrongTimes() {
		for now := -2; now <= 60; now++ {
			checkLives(t, "times that are not right", x, now, 0, false)
			checkLives(t, "times that are not right", x, now, 100, false)
		}
		for _, n := range []int{x.Auth, x.Start, x.End, x.Renew} {
			checkLives(t, "at one of its own", x, n, 0, false)
		}
	}
	for _, x := range rightOnes() {
		for _, n := range farNumbers() {
			for _, m := range append(farNumbers(), 0, 1, 10, 15, 20, 100, 101) {
				checkLives(t, "far away", x, n, m, plainLives(x, n, m))
				checkLives(t, "far away", x, m, n, plainLives(x, m, n))
			}
		}
	}
}

func TestRenewed(t *testing.T) {
	x := times(5, 10, 20, 50)
	for _, c := range []struct {
		what      string
		x         impl.Times
		now, life int
		want      impl.Times
		ok        bool
	}{
		{"ordinary", x, 15, 10, times(5, 15, 25, 50), true},
		{"ends before it did", x, 11, 3, times(5, 11, 14, 50), true},
		{"ends when it did", x, 15, 5, times(5, 15, 20, 50), true},
		{"one before Start", x, 9, 10, impl.Times{}, false},
		{"at Start", x, 10, 10, times(5, 10, 20, 50), true},
		{"at End", x, 20, 10, times(5, 20, 30, 50), true},
		{"one past End", x, 21, 10, impl.Times{}, false},
		{"at Renew", x, 50, 10, impl.Times{}, false},
		{"at Auth", x, 5, 10, impl.Times{}, false},
		{"life 0", x, 15, 0, impl.Times{}, false},
		{"life -1", x, 15, -1, impl.Times{}, false},
		{"life below 0", x, 15, -10, impl.Times{}, false},
		{"life as small as an int goes", x, 15, math.MinInt, impl.Times{}, false},
		{"life 1", x, 15, 1, times(5, 15, 16, 50), true},
		{"one that ends one before Renew", x, 15, 34, times(5, 15, 49, 50), true},
		{"one that ends just at Renew", x, 15, 35, times(5, 15, 50, 50), true},
		{"one more", x, 15, 36, times(5, 15, 50, 50), true},
		{"a great one", x, 15, 100000, times(5, 15, 50, 50), true},
		{"the greatest that fits with now", x, 15, math.MaxInt - 15, times(5, 15, 50, 50), true},
		{"the least that does not fit with now", x, 15, math.MaxInt - 14, times(5, 15, 50, 50), true},
		{"without an end", x, 15, math.MaxInt, times(5, 15, 50, 50), true},
		{"without an end, at Start", x, 10, math.MaxInt, times(5, 10, 50, 50), true},
		{"without an end, at End", x, 20, math.MaxInt, times(5, 20, 50, 50), true},
		{"without an end, at 0", times(0, 0, 20, 50), 0, math.MaxInt, times(0, 0, 50, 50), true},
		{"without an end, too early", x, 9, math.MaxInt, impl.Times{}, false},
		{"without an end, too late", x, 21, math.MaxInt, impl.Times{}, false},
		{"Renew at End", times(5, 10, 20, 20), 15, 10, times(5, 15, 20, 20), true},
		{"Renew at End, at End", times(5, 10, 20, 20), 20, 1, times(5, 20, 20, 20), true},
		{"Renew at End, a short life", times(5, 10, 20, 20), 15, 2, times(5, 15, 17, 20), true},
		{"Renew at End, without an end", times(5, 10, 20, 20), 15, math.MaxInt, times(5, 15, 20, 20), true},
		{"all at one moment", times(7, 7, 7, 7), 7, 1, times(7, 7, 7, 7), true},
		{"all at 0", impl.Times{}, 0, 1, impl.Times{}, true},
		{"up to MaxTime", times(0, 0, 99999, 100000), 99999, 1, times(0, 99999, 100000, 100000), true},
		{"at MaxTime", times(0, 0, 100000, 100000), 100000, math.MaxInt, times(0, 100000, 100000, 100000), true},
		{"now as great as an int goes", x, math.MaxInt, 10, impl.Times{}, false},
		{"now as small as an int goes", x, math.MinInt, 10, impl.Times{}, false},
		{"now and life as great as an int goes", x, math.MaxInt, math.MaxInt, impl.Times{}, false},
		{"now as small, life as great", x, math.MinInt, math.MaxInt, impl.Times{}, false},
	} {
		got, ok := checkRenewed(t, c.what, c.x, c.now, c.life)
		if got != c.want || ok != c.ok {
			t.Errorf("%s: Renewed(%+v, %d, %d) = %+v, %v, want %+v, %v", c.what, c.x, c.now, c.life, got, ok, c.want, c.ok)
		}
	}
}

func TestRenewedOfAllSmallOnes(t *testing.T) {
	smallTimes(-1, 4, func(x impl.Times) {
		for now := -2; now <= 5; now++ {
			for life := -1; life <= 6; life++ {
				checkRenewed(t, "small", x, now, life)
			}
			checkRenewed(t, "small, without an end", x, now, math.MaxInt)
		}
	})
}

func TestRenewedOfWrongOnes(t *testing.T) {
	for _, x := range wrongTimes() {
		for _, now := range []int{-1, 0, 5, 10, 15, 20, 50, 100000, 100001, x.Auth, x.Start, x.End, x.Renew} {
			for _, life := range []int{0, 1, 10, 100000, math.MaxInt, math.MinInt} {
				if got, ok := checkRenewed(t, "times that are not right", x, now, life); ok || got != (impl.Times{}) {
					t.Errorf("Renewed(%+v, %d, %d) = %+v, %v", x, now, life, got, ok)
				}
			}
		}
	}
	for _, x := range rightOnes() {
		for _, n := range farNumbers() {
			for _, m := range append(farNumbers(), 0, 1, 5, 10, 15, 20, 50) {
				checkRenewed(t, "far away", x, n, m)
				checkRenewed(t, "far away", x, m, n)
			}
			for now := x.Start; now <= min(x.End, x.Start+30); now++ {
				checkRenewed(t, "a life far away", x, now, n)
			}
		}
	}
}

// Promise 16: however often it is renewed, it never ends past the first Renew.
func TestRenewedAgainAndAgain(t *testing.T) {
	r := rand.New(rand.NewSource(16))
	for range 3000 {
		first := anyTimes(r, 0)
		at := first
		for range 30 {
			now := numberNear(r, at.Start, at.End, 9)
			life := []int{1, 1 + r.Intn(20), 1 + r.Intn(100000), math.MaxInt, math.MaxInt - now, r.Intn(3) - 1}[r.Intn(6)]
			next, ok := checkRenewed(t, "again", at, now, life)
			if !ok {
				continue
			}
			if next.End > first.Renew || next.Renew != first.Renew || next.Auth != first.Auth || next.Start < at.Start {
				t.Fatalf("%+v renewed to %+v, and that to %+v", first, at, next)
			}
			at = next
		}
	}
}

// At each End once more, for as long as it may: it comes to Renew and stays there.
func TestRenewedUpToRenew(t *testing.T) {
	for _, first := range []impl.Times{times(5, 10, 20, 50), times(0, 0, 0, 9), times(3, 3, 3, 3), times(0, 99990, 99991, 100000)} {
		for _, life := range []int{1, 2, 7, 100, math.MaxInt} {
			at := first
			for range 200 {
				next, ok := impl.Renewed(at, at.End, life)
				if !ok || next.End > first.Renew || next.Renew != first.Renew || next.Auth != first.Auth || next.End < at.End {
					t.Fatalf("%+v at its End, for %d: %+v, %v", at, life, next, ok)
				}
				at = next
			}
			if at != times(first.Auth, first.Renew, first.Renew, first.Renew) {
				t.Errorf("%+v for %d at a time comes to %+v", first, life, at)
			}
			if _, ok := impl.Renewed(at, first.Renew+1, life); ok {
				t.Errorf("%+v is renewed past Renew", at)
			}
		}
	}
}

func TestInside(t *testing.T) {
	parent := times(5, 10, 20, 50)
	for _, c := range []struct {
		what string
		want impl.Times
		is   impl.Times
		ok   bool
	}{
		{"within", times(6, 12, 18, 40), times(5, 12, 18, 40), true},
		{"the parent", parent, parent, true},
		{"begins before it", times(0, 2, 15, 40), times(5, 10, 15, 40), true},
		{"begins before its Auth", times(0, 0, 15, 40), times(5, 10, 15, 40), true},
		{"ends behind it", times(6, 12, 21, 40), times(5, 12, 20, 40), true},
		{"ends behind its Renew", times(6, 12, 60, 70), times(5, 12, 20, 50), true},
		{"may be renewed longer", times(6, 12, 18, 51), times(5, 12, 18, 50), true},
		{"may be renewed as long as can be", times(6, 12, 18, 100000), times(5, 12, 18, 50), true},
		{"around it", times(0, 0, 100000, 100000), parent, true},
		{"has another Auth ahead", times(0, 12, 18, 40), times(5, 12, 18, 40), true},
		{"has another Auth behind", times(12, 12, 18, 40), times(5, 12, 18, 40), true},
		{"may be renewed up to the parent's End", times(6, 12, 18, 20), times(5, 12, 18, 20), true},
		{"may be renewed up to before the parent's End", times(6, 12, 18, 19), times(5, 12, 18, 19), true},
		{"begins at the parent's End", times(6, 20, 30, 40), times(5, 20, 20, 40), true},
		{"begins behind the parent's End", times(6, 21, 30, 40), impl.Times{}, false},
		{"begins at the parent's Renew", times(6, 50, 50, 50), impl.Times{}, false},
		{"begins long behind all of it", times(60, 70, 80, 90), impl.Times{}, false},
		{"ends at the parent's Start", times(0, 2, 10, 40), times(5, 10, 10, 40), true},
		{"ends before the parent's Start", times(0, 2, 9, 40), impl.Times{}, false},
		{"ends before the parent's Auth", times(0, 2, 4, 40), impl.Times{}, false},
		{"ends and is renewed before the parent's Start", times(0, 2, 9, 9), impl.Times{}, false},
		{"the zero one", impl.Times{}, impl.Times{}, false},
		{"not right: Auth below 0", times(-1, 12, 18, 40), impl.Times{}, false},
		{"not right: Start before Auth", times(13, 12, 18, 40), impl.Times{}, false},
		{"not right: Start before Auth and the parent's", times(7, 6, 18, 40), impl.Times{}, false},
		{"not right: End before Start", times(6, 12, 11, 40), impl.Times{}, false},
		{"not right: Renew before End", times(6, 12, 18, 17), impl.Times{}, false},
		{"not right: Renew before End, at the parent's", times(6, 12, 60, 50), impl.Times{}, false},
		{"not right: Renew past MaxTime", times(6, 12, 18, 100001), impl.Times{}, false},
		{"not right: Renew without an end", times(6, 12, 18, math.MaxInt), impl.Times{}, false},
	} {
		got, ok := checkInside(t, c.what, parent, c.want)
		if got != c.is || ok != c.ok {
			t.Errorf("%s: Inside(%+v, %+v) = %+v, %v, want %+v, %v", c.what, parent, c.want, got, ok, c.is, c.ok)
		}
	}
}

func TestInsideOfWrongOnes(t *testing.T) {
	for _, wrong := range wrongTimes() {
		for _, other := range append(rightOnes(), times(0, 0, 100000, 100000), wrong) {
			if got, ok := checkInside(t, "the parent is not right", wrong, other); ok || got != (impl.Times{}) {
				t.Errorf("Inside(%+v, %+v) = %+v, %v", wrong, other, got, ok)
			}
			if got, ok := checkInside(t, "what is wanted is not right", other, wrong); ok || got != (impl.Times{}) {
				t.Errorf("Inside(%+v, %+v) = %+v, %v", other, wrong, got, ok)
			}
		}
	}
}

// Some that are not right would lie within what is right.
func TestInsideOfAllSmallOnes(t *testing.T) {
	all := []impl.Times{}
	smallTimes(-1, 2, func(x impl.Times) { all = append(all, x) })
	smallTimes(0, 4, func(x impl.Times) {
		if x.Auth <= x.Start && x.Start <= x.End && x.End <= x.Renew {
			all = append(all, x)
		}
	})
	for _, parent := range all {
		for _, want := range all {
			checkInside(t, "small", parent, want)
		}
	}
}

func TestInsideOfItselfAndOfWhatIsInside(t *testing.T) {
	r := rand.New(rand.NewSource(1016))
	for range 20000 {
		parent, want := anyTimes(r, 9), anyTimes(r, 9)
		got, ok := checkInside(t, "any", parent, want)
		if self, is := impl.Inside(parent, parent); is != plainTimesOk(parent) || is && self != parent {
			t.Fatalf("Inside(%+v, itself) = %+v, %v", parent, self, is)
		}
		if !ok {
			continue
		}
		if again, is := checkInside(t, "once more", parent, got); !is || again != got {
			t.Fatalf("Inside(%+v, %+v) = %+v, %v", parent, got, again, is)
		}
		narrower, is := checkInside(t, "narrower", got, anyTimes(r, 0))
		if is && (narrower.Start < parent.Start || narrower.End > parent.End || narrower.Renew > parent.Renew || narrower.Auth != parent.Auth) {
			t.Fatalf("%+v inside of %+v, and that inside of %+v", narrower, got, parent)
		}
	}
}

func TestShowTimes(t *testing.T) {
	for _, c := range []struct {
		x    impl.Times
		want string
	}{
		{impl.Times{}, "l\x04a\x01\x00a\x01\x00a\x01\x00a\x01\x00"},
		{times(5, 10, 20, 50), "l\x04a\x01\x05a\x01\x0aa\x01\x14a\x01\x32"},
		{times(1, 127, 128, 100000), "l\x04a\x01\x01a\x01\x7fa\x02\x80\x01a\x03\xa0\x8d\x06"},
	} {
		if got := impl.ShowTimes(c.x); got != c.want || got != impl.Nums([]int{c.x.Auth, c.x.Start, c.x.End, c.x.Renew}) {
			t.Errorf("ShowTimes(%+v) = %q, want %q", c.x, got, c.want)
		}
		checkReadTimes(t, "as they were", c.want, c.x, true)
	}
	for _, x := range wrongTimes() {
		if got := impl.ShowTimes(x); got != "" {
			t.Errorf("ShowTimes(%+v) = %q", x, got)
		}
	}
}

func TestTimesAreReadAsTheyWere(t *testing.T) {
	for _, x := range rightOnes() {
		checkShownTimes(t, x)
	}
	smallTimes(-1, 6, func(x impl.Times) { checkShownTimes(t, x) })
	smallTimes(125, 129, func(x impl.Times) { checkShownTimes(t, x) })
	smallTimes(16382, 16385, func(x impl.Times) { checkShownTimes(t, x) })
	smallTimes(99996, 100001, func(x impl.Times) { checkShownTimes(t, x) })
	r := rand.New(rand.NewSource(2016))
	for range 20000 {
		checkShownTimes(t, anyTimes(r, 9))
	}
}

// No two right ones have one text.
func TestTimesShownAreUnlike(t *testing.T) {
	texts := map[string]impl.Times{}
	smallTimes(0, 8, func(x impl.Times) {
		s := impl.ShowTimes(x)
		if other, ok := texts[s]; ok && s != "" {
			t.Errorf("%+v and %+v are both shown as %q", other, x, s)
		}
		texts[s] = x
	})
}

func TestReadTimesOfWhatIsNone(t *testing.T) {
	shown := impl.ShowTimes(times(5, 10, 20, 50))
	sealed := impl.Seal(3, shown)
	texts := []string{
		"", "x", "l", "l\x04", "5 10 20 50", shown + shown, " " + shown, shown + "\x00", shown + "a", shown[:len(shown)-1], shown[1:], shown[2:],
		impl.Nums(nil), impl.Nums([]int{5}), impl.Nums([]int{5, 10}), impl.Nums([]int{5, 10, 20}), impl.Nums([]int{5, 10, 20, 50, 60}), impl.Nums([]int{5, 10, 20, 50, 50}), impl.Nums([]int{0, 5, 10, 20, 50}), impl.Nums(make([]int, 3)), impl.Nums(make([]int, 5)), impl.Nums(make([]int, 12)),
		impl.Nums([]int{5, 4, 20, 50}), impl.Nums([]int{5, 10, 9, 50}), impl.Nums([]int{5, 10, 20, 19}), impl.Nums([]int{5, 10, 20, 100001}), impl.Nums([]int{50, 20, 10, 5}), impl.Nums([]int{11, 10, 20, 50}),
		impl.Nums([]int{100001, 100001, 100001, 100001}), impl.Nums([]int{5, 10, 100001, 100001}), impl.Nums([]int{5, 10, 20, impl.MaxVar}), impl.Nums([]int{impl.MaxVar, 10, 20, 50}), impl.Nums([]int{impl.MaxVar, impl.MaxVar, impl.MaxVar, impl.MaxVar}),
		impl.Num(5), impl.Atom(shown), key(5), sealed, list(shown), list(), list(shown, shown, shown, shown), list(sealed, sealed, sealed, sealed),
		list(impl.Num(5), impl.Num(10), impl.Num(20), key(50)), list(key(5), impl.Num(10), impl.Num(20), impl.Num(50)), list(impl.Num(5), impl.Num(10), impl.Num(20), impl.Atom("")), list(impl.Atom(""), impl.Num(10), impl.Num(20), impl.Num(50)), list(impl.Num(5), impl.Num(10), impl.Num(20), list(impl.Num(50))), list(impl.Num(5), impl.Num(10), impl.Num(20), impl.Atom("50")),
		"l\x04a\x01\x05a\x01\x0aa\x01\x14a\x02\xb2\x00", "l\x04a\x02\x85\x00a\x01\x0aa\x01\x14a\x01\x32", "l\x84\x00a\x01\x05a\x01\x0aa\x01\x14a\x01\x32", "l\x04a\x81\x00\x05a\x01\x0aa\x01\x14a\x01\x32",
		strings.Repeat("l\x04", 200), strings.Repeat(shown, 1000), strings.Repeat("x", 1<<20),
	}
	for _, s := range texts {
		checkReadTimes(t, "none", s, impl.Times{}, false)
	}
}

// What is taken is shown as that text again, and nothing else is taken: all short texts, and shown ones changed by a byte.
func TestReadTimesTakesNothingElse(t *testing.T) {
	taken := 0
	check := func(s string) {
		t.Helper()
		x, ok := impl.ReadTimes(s)
		if want, is := plainReadTimes(s); x != want || ok != is {
			t.Fatalf("ReadTimes(%q) = %+v, %v, want %+v, %v", s, x, ok, want, is)
		}
		if ok && impl.ShowTimes(x) != s || !ok && x != (impl.Times{}) {
			t.Fatalf("ReadTimes(%q) = %+v, %v, which is shown as %q", s, x, ok, impl.ShowTimes(x))
		}
		if ok {
			taken++
		}
	}
	for _, x := range []impl.Times{{}, times(5, 10, 20, 50), times(1, 127, 128, 100000), times(300, 300, 300, 300)} {
		shown := impl.ShowTimes(x)
		check(shown)
		for i := range len(shown) {
			check(shown[:i])
			check(shown[i:])
			check(shown[:i] + shown[i+1:])
			for b := range 256 {
				check(shown[:i] + string([]byte{byte(b)}) + shown[i+1:])
				check(shown[:i] + string([]byte{byte(b)}) + shown[i:])
				check(shown + string([]byte{byte(b)}))
			}
		}
	}
	everyText("la\x00\x01\x04", 7, check)
	// Four numbers of one byte each, right or not.
	everyText("\x00\x01\x02\x7f\x80", 4, func(s string) {
		if len(s) == 4 {
			check("l\x04a\x01" + s[:1] + "a\x01" + s[1:2] + "a\x01" + s[2:3] + "a\x01" + s[3:])
		}
	})
	if taken < 200 {
		t.Errorf("only %d texts were taken", taken)
	}
}

// Times, moments, skews and lives at random, right or not.
func TestTimesAtRandom(t *testing.T) {
	r := rand.New(rand.NewSource(3016))
	for range 50000 {
		x := anyTimes(r, 6)
		near := []int{x.Auth, x.Start, x.End, x.Renew}[r.Intn(4)]
		now := []int{near, near + r.Intn(203) - 101, r.Intn(100003) - 1}[r.Intn(3)]
		skew := numberNear(r, 0, 100, 5)
		checkTimesOk(t, "any", x, plainTimesOk(x))
		checkLives(t, "any", x, now, skew, plainLives(x, now, skew))
		for _, life := range []int{r.Intn(5) - 1, x.Renew - now, x.Renew - now + 1, x.Renew - now - 1, math.MaxInt - r.Intn(200000)} {
			checkRenewed(t, "any", x, now, life)
		}
	}
}
