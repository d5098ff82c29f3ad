package tests

import (
	"math"
	"slices"
	"testing"

	"loop.example/g00597/impl"
)

func authority(id int, key int, err int) impl.Authority {
	return impl.Authority{Id: id, Key: key, Error: err}
}

func stamp(authority int, seq int, time int, digest int) impl.Stamp {
	return impl.Stamp{Authority: authority, Seq: seq, Time: time, Digest: digest}
}

// fewAuthorities: the key of 5 is not one of fewKeys.
var fewAuthorities = []impl.Authority{authority(0, 33, 100), authority(1, 31, 2), authority(2, 32, 0), authority(5, 50, 3), authority(99, 31, 1)}

// oddAuthorities are out of order, partly not valid, and some have the same Id.
var oddAuthorities = []impl.Authority{
	authority(7, 11, 5), authority(3, 12, -1), authority(7, 13, 6), authority(-2, 0, 1), authority(100, 100, 101),
	authority(4, 0, math.MaxInt), authority(3, 14, 4), authority(6, 33, math.MinInt), authority(8, 33, 20000), authority(math.MinInt, -3, 2),
}

// someStamps can be made by fewAuthorities.
var someStamps = []impl.Stamp{
	stamp(1, 4, 9, 7), stamp(0, 0, 0, 0), stamp(2, 1, impl.MaxTime, impl.MaxValue), stamp(99, math.MaxInt, 5000, -1), stamp(1, 0, 1, 77), stamp(0, 3, 50, impl.Modulus+3),
}

var stampFields = []field[impl.Stamp]{
	{"Authority", func(s *impl.Stamp) *int { return &s.Authority }, 0, 99},
	{"Seq", func(s *impl.Stamp) *int { return &s.Seq }, 0, math.MaxInt},
	{"Time", func(s *impl.Stamp) *int { return &s.Time }, 0, impl.MaxTime},
	{"Digest", func(s *impl.Stamp) *int { return &s.Digest }, math.MinInt, math.MaxInt},
	{"Mark", func(s *impl.Stamp) *int { return &s.Mark }, 0, impl.Modulus - 1},
}

func stampIntsSlowly(s impl.Stamp) []int {
	return []int{103, s.Authority, s.Seq, s.Time, s.Digest}
}

// authoritySlowly returns the first authority with an Id, and its index.
func authoritySlowly(l []impl.Authority, id int) (impl.Authority, int) {
	for i := range l {
		if l[i].Id == id {
			return l[i], i
		}
	}
	return impl.Authority{}, -1
}

// stampSlowly tells by the definition alone what MakeStamp returns.
func stampSlowly(keys []impl.Key, l []impl.Authority, s impl.Stamp) (impl.Stamp, bool) {
	a, i := authoritySlowly(l, s.Authority)
	if i < 0 || s.Seq < 0 || s.Time < 0 || s.Time > 10000 {
		return impl.Stamp{}, false
	}
	k, j := keySlowly(keys, a.Key)
	if j < 0 {
		return impl.Stamp{}, false
	}
	s.Mark = markSlowly(k, stampIntsSlowly(s))
	return s, true
}

// checkMakeStamp checks that s is made as defined, and that what is made is all that checks; it returns this.
func checkMakeStamp(t *testing.T, keys []impl.Key, l []impl.Authority, s impl.Stamp) impl.Stamp {
	t.Helper()
	want, wantOk := stampSlowly(keys, l, s)
	got, ok := impl.MakeStamp(keys, l, s)
	if got != want || ok != wantOk {
		t.Errorf("MakeStamp(%v, %v, %v) = %v, %t, want %v, %t", keys, l, s, got, ok, want, wantOk)
	}
	if impl.CheckStamp(keys, l, s) != (wantOk && s == want) {
		t.Errorf("CheckStamp(%v, %v, %v) = %t", keys, l, s, !wantOk)
	}
	if wantOk && !impl.CheckStamp(keys, l, want) {
		t.Errorf("CheckStamp(%v, %v, %v) = false", keys, l, want)
	}
	return got
}

func checkNotStamped(t *testing.T, keys []impl.Key, l []impl.Authority, s impl.Stamp) {
	t.Helper()
	if got, ok := impl.MakeStamp(keys, l, s); ok || got != (impl.Stamp{}) {
		t.Errorf("MakeStamp(%v, %v, %v) = %v, %t", keys, l, s, got, ok)
	}
	for _, k := range append(slices.Clone(keys), impl.Key{}) {
		s.Mark = markSlowly(k, stampIntsSlowly(s))
		if impl.CheckStamp(keys, l, s) {
			t.Errorf("CheckStamp(%v, %v, %v) = true", keys, l, s)
		}
	}
	if impl.CheckStamp(keys, l, impl.Stamp{}) {
		t.Error("the zero Stamp checks")
	}
}

func spareAuthorities(l []impl.Authority) []impl.Authority {
	return spareOf(l, authority(1, 31, 2))
}

// sixAuthorities returns the greatest list of authorities that is valid.
func sixAuthorities() []impl.Authority {
	l := []impl.Authority{}
	for i := range impl.MaxAuthorities {
		l = append(l, authority(3*i, 99-i%2, 20*i))
	}
	return l
}

func TestMaxAuthorities(t *testing.T) {
	if impl.MaxAuthorities != 6 {
		t.Errorf("MaxAuthorities = %d", impl.MaxAuthorities)
	}
}

func checkAreAuthorities(t *testing.T, l []impl.Authority, want bool) {
	t.Helper()
	if got := impl.AreAuthorities(l); got != want {
		t.Errorf("AreAuthorities(%v) = %t", l, got)
	}
}

func TestAreAuthorities(t *testing.T) {
	six := sixAuthorities()
	for _, l := range [][]impl.Authority{nil, {}, fewAuthorities, six, six[2:], {authority(0, 1, 0)}, {authority(99, 99, 100)}} {
		checkAreAuthorities(t, l, true)
	}
	seven := append(slices.Clone(six), authority(99, 1, 0))
	checkAreAuthorities(t, seven, false)
	checkAreAuthorities(t, seven[1:], true)
	checkAreAuthorities(t, oddAuthorities, false)
	checkAreAuthorities(t, oddAuthorities[:2], false)
	checkAreAuthorities(t, []impl.Authority{{}}, false)
	fields := []field[impl.Authority]{
		{"Id", func(a *impl.Authority) *int { return &a.Id }, 0, 99},
		{"Key", func(a *impl.Authority) *int { return &a.Key }, 1, 99},
		{"Error", func(a *impl.Authority) *int { return &a.Error }, 0, 100},
	}
	checkFields(t, authority(5, 6, 7), func(a impl.Authority) bool { return impl.AreAuthorities([]impl.Authority{a}) }, fields)
}

func TestAreAuthoritiesOfEachPlace(t *testing.T) {
	for i := range impl.MaxAuthorities {
		changes := []func(a *impl.Authority){
			func(a *impl.Authority) { a.Key = 0 }, func(a *impl.Authority) { a.Key = 100 },
			func(a *impl.Authority) { a.Error = -1 }, func(a *impl.Authority) { a.Error = 101 },
		}
		for _, change := range changes {
			l := sixAuthorities()
			change(&l[i])
			checkAreAuthorities(t, l, false)
		}
		for _, step := range []int{-1, 0, 1} {
			if l := sixAuthorities(); i > 0 {
				l[i].Id = l[i-1].Id + step
				checkAreAuthorities(t, l, step == 1)
			}
		}
		// Only the Ids have to differ.
		l := sixAuthorities()
		l[i].Key, l[i].Error = l[0].Key, l[0].Error
		checkAreAuthorities(t, l, true)
	}
	l := sixAuthorities()
	l[0].Id = -1
	checkAreAuthorities(t, l, false)
	l = sixAuthorities()
	l[5].Id = 100
	checkAreAuthorities(t, l, false)
}

func TestFindAuthorityAndStampKey(t *testing.T) {
	cases := []struct {
		l              []impl.Authority
		id, index, key int
	}{
		{nil, 0, -1, 0}, {nil, -1, -1, 0}, {[]impl.Authority{}, 1, -1, 0},
		{fewAuthorities, 0, 0, 33}, {fewAuthorities, 1, 1, 31}, {fewAuthorities, 5, 3, 50}, {fewAuthorities, 99, 4, 31},
		{fewAuthorities, 3, -1, 0}, {fewAuthorities, -1, -1, 0}, {fewAuthorities, 31, -1, 0}, {fewAuthorities, 1 + 1<<32, -1, 0},
		{fewAuthorities, math.MinInt, -1, 0}, {fewAuthorities, math.MaxInt, -1, 0},
		{oddAuthorities, 7, 0, 11}, {oddAuthorities[1:], 7, 1, 13}, {oddAuthorities, 3, 1, 12}, {oddAuthorities[2:], 3, 4, 14},
		{oddAuthorities, -2, 3, 0}, {oddAuthorities, 100, 4, 100}, {oddAuthorities, math.MinInt, 9, -3}, {oddAuthorities, 0, -1, 0},
	}
	for _, c := range cases {
		if got := impl.FindAuthority(c.l, c.id); got != c.index {
			t.Errorf("FindAuthority(%v, %d) = %d, want %d", c.l, c.id, got, c.index)
		}
		// Nothing else of the stamp is asked.
		for _, s := range []impl.Stamp{stamp(c.id, 0, 0, 0), stamp(c.id, -1, -1, 7), {Authority: c.id, Time: 20000, Mark: 5}} {
			if got := impl.StampKey(c.l, s); got != c.key {
				t.Errorf("StampKey(%v, %v) = %d, want %d", c.l, s, got, c.key)
			}
		}
	}
}

func TestStampInts(t *testing.T) {
	if got := impl.StampInts(impl.Stamp{Authority: 2, Seq: 3, Time: 4, Digest: 5, Mark: 6}); !slices.Equal(got, []int{103, 2, 3, 4, 5}) {
		t.Errorf("StampInts = %v", got)
	}
	for _, s := range append(slices.Clone(someStamps), impl.Stamp{}, stamp(-1, math.MinInt, math.MaxInt, -9)) {
		if got := impl.StampInts(s); !slices.Equal(got, stampIntsSlowly(s)) {
			t.Errorf("StampInts(%v) = %v", s, got)
		}
	}
}

func TestMakeStamp(t *testing.T) {
	keys := append(slices.Clone(fewKeys), key(34, 84, 4, 60, 534))
	l := []impl.Authority{authority(1, 31, 2), authority(4, 34, 0)}
	marks := map[impl.Stamp]int{stamp(1, 4, 9, 7): 1661999814, stamp(4, 0, 10000, -1): 1836430091}
	for s, mark := range marks {
		if got := checkMakeStamp(t, keys, l, s); got.Mark != mark {
			t.Errorf("MakeStamp(%v) = %v, want the mark %d", s, got, mark)
		}
	}
	for _, s := range someStamps {
		mark := checkMakeStamp(t, fewKeys, fewAuthorities, s).Mark
		// The mark that was there before makes no difference.
		for _, old := range []int{-1, 5, mark, mark + 1, math.MinInt} {
			s.Mark = old
			checkMakeStamp(t, fewKeys, fewAuthorities, s)
		}
	}
}

// Keys and authorities need not be valid; of equal Ids and Numbers the first one counts.
func TestMakeStampAsDefined(t *testing.T) {
	for _, keys := range [][]impl.Key{nil, fewKeys, oddKeys, oddKeys[2:], twelveKeys()} {
		for _, l := range [][]impl.Authority{nil, fewAuthorities, oddAuthorities, oddAuthorities[2:], sixAuthorities()} {
			for _, id := range []int{0, 1, 2, 3, 4, 5, 6, 7, 99, 100, -2, math.MinInt} {
				for _, time := range []int{0, 8, impl.MaxTime} {
					checkMakeStamp(t, keys, l, stamp(id, 2, time, 7))
				}
			}
		}
	}
}

func TestMakeStampThatIsNotValid(t *testing.T) {
	for _, s := range someStamps {
		for _, seq := range []int{-1, -2, math.MinInt} {
			checkNotStamped(t, fewKeys, fewAuthorities, stamp(s.Authority, seq, s.Time, s.Digest))
		}
		for _, time := range []int{-1, impl.MaxTime + 1, math.MinInt, math.MaxInt} {
			checkNotStamped(t, fewKeys, fewAuthorities, stamp(s.Authority, s.Seq, time, s.Digest))
		}
		// There is no such authority, or its key is not there.
		for _, id := range []int{3, 5, 100, -1, 98, math.MinInt, math.MaxInt} {
			checkNotStamped(t, fewKeys, fewAuthorities, stamp(id, s.Seq, s.Time, s.Digest))
		}
		checkNotStamped(t, fewKeys, nil, s)
		checkNotStamped(t, nil, fewAuthorities, s)
		checkNotStamped(t, nil, nil, s)
		checkNotStamped(t, fewKeys[:6], fewAuthorities, s)
		// A key without a Number is not the one of an authority that is not there.
		checkNotStamped(t, []impl.Key{key(0, 1, 1, 0, 5)}, fewAuthorities, stamp(3, s.Seq, s.Time, s.Digest))
	}
	for _, seq := range []int{0, 1, math.MaxInt} {
		for _, time := range []int{0, 1, impl.MaxTime - 1, impl.MaxTime} {
			if s := checkMakeStamp(t, fewKeys, fewAuthorities, stamp(1, seq, time, 7)); s == (impl.Stamp{}) {
				t.Errorf("there is no stamp %d at %d", seq, time)
			}
		}
	}
}

func TestStampsAreCheckedAsTheyWereMade(t *testing.T) {
	for _, like := range someStamps {
		s := checkMakeStamp(t, fewKeys, fewAuthorities, like)
		checkChanges(t, s, func(y impl.Stamp) bool { return impl.CheckStamp(fewKeys, fewAuthorities, y) }, stampFields)
		for _, k := range fewKeys {
			a, _ := authoritySlowly(fewAuthorities, s.Authority)
			forged := s
			forged.Mark = markSlowly(k, stampIntsSlowly(s))
			if got := impl.CheckStamp(fewKeys, fewAuthorities, forged); got != (k.Number == a.Key) {
				t.Errorf("CheckStamp(%v) = %t with a mark by the key %d", forged, got, k.Number)
			}
		}
		// Another authority with the same key did not make it.
		if s.Authority == 1 && impl.CheckStamp(fewKeys, []impl.Authority{authority(99, 31, 1)}, s) {
			t.Errorf("CheckStamp(%v) = true without its authority", s)
		}
	}
}

func checkStampSpan(t *testing.T, l []impl.Authority, s impl.Stamp, want impl.Span, wantOk bool) {
	t.Helper()
	if got, ok := impl.StampSpan(l, s); got != want || ok != wantOk {
		t.Errorf("StampSpan(%v, %v) = %v, %t, want %v, %t", l, s, got, ok, want, wantOk)
	}
}

func TestStampSpan(t *testing.T) {
	const top = impl.MaxTime
	cases := []struct {
		err, time int
		want      impl.Span
	}{
		{2, 9, span(7, 11)}, {0, 9, span(9, 9)}, {0, 0, span(0, 0)}, {0, top, span(top, top)},
		{1, 0, span(0, 1)}, {2, 1, span(0, 3)}, {2, 2, span(0, 4)}, {2, 3, span(1, 5)}, {100, 50, span(0, 150)}, {100, 100, span(0, 200)}, {100, 101, span(1, 201)},
		{1, top, span(top-1, top)}, {2, top - 1, span(top-3, top)}, {2, top - 2, span(top-4, top)}, {2, top - 3, span(top-5, top-1)}, {100, top - 50, span(top-150, top)},
		// Errors that no valid authority has.
		{101, 500, span(399, 601)}, {top, 5, span(0, top)}, {20000, 5000, span(0, top)}, {math.MaxInt, 0, span(0, top)},
	}
	for _, c := range cases {
		l := []impl.Authority{authority(1, 31, 7), authority(2, 0, c.err), authority(2, 32, 8)}
		for _, s := range []impl.Stamp{stamp(2, 0, c.time, 0), stamp(2, -1, c.time, -1), {Authority: 2, Time: c.time, Mark: -5}} {
			checkStampSpan(t, l, s, c.want, true)
		}
	}
}

// Neither the Id nor the Key of the authority has to be valid, and of equal Ids the first one counts.
func TestStampSpanOfOddAuthorities(t *testing.T) {
	checkStampSpan(t, oddAuthorities, stamp(-2, 0, 9, 7), span(8, 10), true)
	checkStampSpan(t, oddAuthorities, stamp(math.MinInt, 0, 9, 7), span(7, 11), true)
	checkStampSpan(t, oddAuthorities, stamp(100, 0, 200, 7), span(99, 301), true)
	checkStampSpan(t, oddAuthorities, stamp(7, 0, 9, 7), span(4, 14), true)
	checkStampSpan(t, oddAuthorities[1:], stamp(7, 0, 9, 7), span(3, 15), true)
	checkStampSpan(t, oddAuthorities, stamp(3, 0, 9, 7), impl.Span{}, false)
	checkStampSpan(t, oddAuthorities[2:], stamp(3, 0, 9, 7), span(5, 13), true)
	checkStampSpan(t, oddAuthorities, stamp(6, 0, 9, 7), impl.Span{}, false)
}

func TestStampSpanThatThereIsNot(t *testing.T) {
	none := span(0, 0)
	for _, time := range []int{-1, -2, impl.MaxTime + 1, impl.MaxTime + 2, math.MinInt, math.MaxInt} {
		for _, id := range []int{0, 1, 2, 99} {
			// Some of the times that it would mean are there.
			checkStampSpan(t, fewAuthorities, stamp(id, 0, time, 7), none, false)
		}
		checkStampSpan(t, []impl.Authority{authority(1, 31, 20000)}, stamp(1, 0, time, 7), none, false)
	}
	for _, time := range []int{0, 5, impl.MaxTime} {
		for _, err := range []int{-1, -2, -100, math.MinInt, math.MinInt + 1} {
			checkStampSpan(t, []impl.Authority{authority(1, 31, err)}, stamp(1, 0, time, 7), none, false)
		}
		for _, id := range []int{-1, 3, 100} {
			checkStampSpan(t, fewAuthorities, stamp(id, 0, time, 7), none, false)
		}
		checkStampSpan(t, nil, stamp(0, 0, time, 7), none, false)
	}
	// The sum wraps around, so that there are no times up to it.
	checkStampSpan(t, []impl.Authority{authority(1, 31, math.MaxInt)}, stamp(1, 0, 5, 7), none, false)
}

func TestStampsLeaveArgumentsAlone(t *testing.T) {
	for _, list := range [][]impl.Authority{{}, fewAuthorities, oddAuthorities} {
		l, keys := spareAuthorities(list), spareKeys(fewKeys)
		for _, s := range append(slices.Clone(someStamps), stamp(3, 0, 0, 0), stamp(7, 0, 0, 0), stamp(1, -1, 0, 0)) {
			calls := []func(){
				func() { impl.AreAuthorities(l) },
				func() { impl.FindAuthority(l, s.Authority) },
				func() { impl.MakeStamp(keys, l, s) },
				func() { impl.CheckStamp(keys, l, s) },
				func() { impl.StampSpan(l, s) },
				func() { impl.StampKey(l, s) },
			}
			checkUnchanged(t, "stamps", l, calls...)
			checkUnchanged(t, "stamps", keys, calls...)
		}
	}
	a, b := impl.StampInts(someStamps[0]), impl.StampInts(someStamps[0])
	fill(a, -9)
	if !slices.Equal(b, stampIntsSlowly(someStamps[0])) || !slices.Equal(impl.StampInts(someStamps[0]), b) {
		t.Error("two results of StampInts share memory")
	}
}
