package tests

import (
	"math"
	"slices"
	"testing"

	"loop.example/g00597/impl"
)

func status(serial int, asOf int, ended int, issuer int) impl.Status {
	return impl.Status{Serial: serial, AsOf: asOf, Ended: ended, Issuer: issuer}
}

// good and bad are answers about the certificate 5.
func good(asOf int) impl.Status {
	return status(5, asOf, -1, 1)
}

func bad(asOf int, ended int) impl.Status {
	return status(5, asOf, ended, 1)
}

// someStatuses are valid, and their issuers are some of fewKeys.
var someStatuses = []impl.Status{
	good(7), good(0), good(impl.MaxTime), bad(7, 0), bad(7, 6), bad(7, 7), bad(7, 8), bad(0, 0), bad(0, 1),
	bad(impl.MaxTime, impl.MaxTime+1), status(1, 30, 4, 2), status(999, 5000, -1, 33),
}

var statusFields = []field[impl.Status]{
	{"Serial", func(x *impl.Status) *int { return &x.Serial }, 1, 999},
	{"AsOf", func(x *impl.Status) *int { return &x.AsOf }, 0, impl.MaxTime},
	{"Ended", func(x *impl.Status) *int { return &x.Ended }, -1, impl.MaxTime + 1},
	{"Issuer", func(x *impl.Status) *int { return &x.Issuer }, 1, 99},
	{"Mark", func(x *impl.Status) *int { return &x.Mark }, 0, impl.Modulus - 1},
}

var statuses = statement[impl.Status]{
	name:   "answer",
	make:   impl.MakeStatus,
	check:  impl.CheckStatus,
	ints:   func(x impl.Status) []int { return []int{102, x.Serial, x.AsOf, x.Ended, x.Issuer} },
	fields: statusFields,
	key:    func(x *impl.Status) *int { return &x.Issuer },
	mark:   func(x *impl.Status) *int { return &x.Mark },
}

func TestIsStatus(t *testing.T) {
	fields := slices.Clone(statusFields[:4])
	fields[2].high = 601
	checkFields(t, status(5, 600, -1, 1), impl.IsStatus, fields)
	checkFields(t, status(5, 600, 0, 1), impl.IsStatus, []field[impl.Status]{fields[0], fields[2], fields[3]})
	for _, asOf := range []int{0, 1, 7, impl.MaxTime - 1, impl.MaxTime} {
		for _, ended := range []int{-2, -1, 0, 1, asOf - 1, asOf, asOf + 1, asOf + 2, math.MinInt, math.MaxInt} {
			want := ended >= -1 && ended <= asOf+1
			if x := bad(asOf, ended); impl.IsStatus(x) != want {
				t.Errorf("IsStatus(%v) = %t", x, !want)
			}
		}
	}
	for _, asOf := range []int{-1, -2, impl.MaxTime + 1, math.MaxInt, math.MinInt} {
		for _, ended := range []int{-1, 0, 1, asOf - 1, asOf, asOf + 1, math.MinInt} {
			if x := bad(asOf, ended); impl.IsStatus(x) {
				t.Errorf("IsStatus(%v) = true", x)
			}
		}
	}
	for _, x := range someStatuses {
		for _, mark := range []int{0, -1, math.MaxInt, math.MinInt} {
			x.Mark = mark
			if !impl.IsStatus(x) {
				t.Errorf("IsStatus(%v) = false", x)
			}
		}
	}
	if impl.IsStatus(impl.Status{}) {
		t.Error("the zero Status is valid")
	}
}

func TestStatusInts(t *testing.T) {
	if got := impl.StatusInts(impl.Status{Serial: 2, AsOf: 3, Ended: 4, Issuer: 5, Mark: 6}); !slices.Equal(got, []int{102, 2, 3, 4, 5}) {
		t.Errorf("StatusInts = %v", got)
	}
	statuses.checkInts(t, impl.StatusInts, append(slices.Clone(someStatuses), impl.Status{}, status(-1, math.MinInt, math.MaxInt, -9)))
}

func TestMakeStatus(t *testing.T) {
	marks := map[impl.Status]int{good(7): 1879460775, bad(7, 8): 1829496279, status(999, 10000, 10001, 2): 1393092867}
	for x, mark := range marks {
		if got := statuses.made(t, fewKeys, x); got.Mark != mark {
			t.Errorf("MakeStatus(%v) = %v, want the mark %d", x, got, mark)
		}
	}
	statuses.checkAnyOldMark(t, someStatuses)
}

func TestMakeStatusThatIsNotValid(t *testing.T) {
	statuses.checkRanges(t, someStatuses)
	for _, x := range someStatuses {
		x.Ended = x.AsOf + 2
		statuses.checkNotMade(t, fewKeys, x)
	}
}

func TestAnswersAreCheckedAsTheyWereMade(t *testing.T) {
	statuses.checkMarks(t, someStatuses)
	// The first key with the Number counts.
	keys := []impl.Key{key(1, 1, 1, 0, 5), key(1, 1, 1, 0, 6)}
	statuses.checkHolds(t, keys, statuses.made(t, keys, good(7)), true)
	statuses.checkHolds(t, keys, statuses.made(t, keys[1:], good(7)), false)
}

// about returns the answers about a Serial.
func about(l []impl.Status, serial int) []impl.Status {
	return slices.DeleteFunc(slices.Clone(l), func(x impl.Status) bool { return x.Serial != serial })
}

// goodSlowly tells by the definition alone what GoodUntil returns.
func goodSlowly(l []impl.Status, serial int) int {
	ends, times := []int{}, []int{-1}
	for _, x := range about(l, serial) {
		if x.Ended >= 0 {
			ends = append(ends, x.Ended)
		}
		times = append(times, x.AsOf)
	}
	if len(ends) > 0 {
		return slices.Min(ends) - 1
	}
	return slices.Max(times)
}

// badSlowly tells by the definition alone what BadFrom returns.
func badSlowly(l []impl.Status, serial int) int {
	ends, times := []int{}, []int{-1}
	for _, x := range about(l, serial) {
		if x.Ended >= 0 {
			ends = append(ends, x.Ended)
		} else {
			times = append(times, x.AsOf)
		}
	}
	if len(ends) == 0 {
		return 10001
	}
	return max(slices.Max(ends), slices.Max(times)+1)
}

func checkAnswers(t *testing.T, l []impl.Status, serial int, good int, bad int, agreed bool) {
	t.Helper()
	if got := impl.GoodUntil(l, serial); got != good {
		t.Errorf("GoodUntil(%v, %d) = %d, want %d", l, serial, got, good)
	}
	if got := impl.BadFrom(l, serial); got != bad {
		t.Errorf("BadFrom(%v, %d) = %d, want %d", l, serial, got, bad)
	}
	if got := impl.IsAgreed(l, serial); got != agreed {
		t.Errorf("IsAgreed(%v, %d) = %t", l, serial, got)
	}
}

func TestAnswersAboutOneSerial(t *testing.T) {
	const never, top = impl.Never, impl.MaxTime
	cases := []struct {
		l      []impl.Status
		good   int
		bad    int
		agreed bool
	}{
		{nil, -1, never, true}, {[]impl.Status{}, -1, never, true},
		// One answer.
		{[]impl.Status{good(7)}, 7, never, true}, {[]impl.Status{good(0)}, 0, never, true}, {[]impl.Status{good(top)}, top, never, true},
		{[]impl.Status{bad(9, 0)}, -1, 0, true}, {[]impl.Status{bad(9, 1)}, 0, 1, true}, {[]impl.Status{bad(9, 10)}, 9, 10, true},
		{[]impl.Status{bad(top, top)}, top - 1, top, true}, {[]impl.Status{bad(top, top+1)}, top, never, true},
		// Several that say that it is good.
		{[]impl.Status{good(3), good(7)}, 7, never, true}, {[]impl.Status{good(7), good(3), good(5)}, 7, never, true}, {[]impl.Status{good(4), good(4)}, 4, never, true},
		// Several that say that it ended.
		{[]impl.Status{bad(9, 4), bad(20, 4)}, 3, 4, true}, {[]impl.Status{bad(9, 4), bad(9, 5)}, 3, 5, false}, {[]impl.Status{bad(9, 5), bad(9, 4)}, 3, 5, false},
		{[]impl.Status{bad(9, 6), bad(9, 2), bad(9, 8), bad(9, 4)}, 1, 8, false}, {[]impl.Status{bad(9, 0), bad(9, 1)}, -1, 1, false},
		// It is good up to the last time before it ended, and it ended when it was good for one time and for more.
		{[]impl.Status{bad(9, 8), good(7)}, 7, 8, true}, {[]impl.Status{bad(9, 8), good(6)}, 7, 8, true}, {[]impl.Status{good(0), bad(9, 1)}, 0, 1, true},
		{[]impl.Status{bad(9, 8), good(8)}, 7, 9, false}, {[]impl.Status{good(8), bad(9, 8)}, 7, 9, false}, {[]impl.Status{good(30), bad(9, 8)}, 7, 31, false},
		{[]impl.Status{bad(9, 0), good(0)}, -1, 1, false}, {[]impl.Status{good(2), bad(9, 8), good(9), bad(9, 7)}, 6, 10, false},
		{[]impl.Status{good(9), bad(20, 15), bad(20, 12)}, 11, 15, false},
	}
	for _, c := range cases {
		checkAnswers(t, c.l, 5, c.good, c.bad, c.agreed)
		checkAnswers(t, c.l, 6, -1, never, true)
		// What is said about others makes no difference.
		others := []impl.Status{status(6, 100, -1, 1), status(4, 100, 2, 1), status(-5, 100, 90, 1), status(5+1<<32, 1, 0, 1)}
		checkAnswers(t, slices.Concat(others, c.l, others), 5, c.good, c.bad, c.agreed)
	}
}

// BadFrom is Never although it ended, so that by the definition nothing contradicts this answer.
func TestAnswerThatItEndsBehindTheLastTime(t *testing.T) {
	end := bad(impl.MaxTime, impl.MaxTime+1)
	checkAnswers(t, []impl.Status{end, good(impl.MaxTime)}, 5, impl.MaxTime, impl.Never, true)
	checkAnswers(t, []impl.Status{end, bad(9, 4)}, 5, 3, impl.Never, true)
	checkAnswers(t, []impl.Status{bad(9, 4), good(impl.MaxTime)}, 5, 3, impl.Never, true)
	checkAnswers(t, []impl.Status{bad(9, 4), good(impl.MaxTime - 1)}, 5, 3, impl.MaxTime, false)
}

// Answers that are not valid count all the same.
func TestAnswersThatAreNotValid(t *testing.T) {
	cases := []struct {
		l         []impl.Status
		good, bad int
		agreed    bool
	}{
		{[]impl.Status{good(-1)}, -1, impl.Never, true}, {[]impl.Status{good(-5)}, -1, impl.Never, true}, {[]impl.Status{good(math.MinInt)}, -1, impl.Never, true},
		{[]impl.Status{good(20000)}, 20000, impl.Never, true}, {[]impl.Status{bad(7, -2)}, 7, impl.Never, true}, {[]impl.Status{bad(7, math.MinInt)}, 7, impl.Never, true},
		{[]impl.Status{bad(3, 20000)}, 19999, 20000, true}, {[]impl.Status{bad(-9, 4)}, 3, 4, true}, {[]impl.Status{bad(-9, 4), bad(8, -7)}, 3, 9, false},
		{[]impl.Status{bad(-9, 4), bad(3, -7)}, 3, 4, true}, {[]impl.Status{good(-5), bad(3, 0)}, -1, 0, true},
		{[]impl.Status{bad(3, math.MaxInt)}, math.MaxInt - 1, math.MaxInt, true},
		{[]impl.Status{good(math.MaxInt)}, math.MaxInt, impl.Never, true},
		// MaxInt + 1 wraps around.
		{[]impl.Status{good(math.MaxInt), bad(3, 4)}, 3, 4, true},
		{[]impl.Status{good(math.MaxInt - 1), bad(3, 4)}, 3, math.MaxInt, false},
	}
	for _, c := range cases {
		checkAnswers(t, c.l, 5, c.good, c.bad, c.agreed)
	}
	none := status(0, 7, -1, 0)
	checkAnswers(t, []impl.Status{none}, 0, 7, impl.Never, true)
	checkAnswers(t, []impl.Status{status(-3, 7, 2, 0), none}, -3, 1, 2, true)
}

// contradict tells whether two valid answers cannot both be right.
func contradict(a impl.Status, b impl.Status) bool {
	if a.Ended < 0 {
		return b.Ended >= 0 && b.Ended <= a.AsOf
	}
	return b.Ended >= 0 && a.Ended != b.Ended || b.Ended < 0 && contradict(b, a)
}

// Answers that agree divide the times: those that are good and those that are bad are apart, with none between them if it has ended.
func TestAnswersAsDefined(t *testing.T) {
	some := []impl.Status{good(0), good(3), good(4), good(5), bad(9, 0), bad(4, 1), bad(9, 4), bad(4, 5), bad(9, 6), bad(7, 4), status(6, 8, 2, 1), status(6, 9, -1, 1)}
	for _, a := range some {
		for _, b := range some {
			for _, c := range some {
				l := []impl.Status{a, b, c}
				agreed := true
				for _, x := range about(l, 5) {
					for _, y := range about(l, 5) {
						agreed = agreed && !contradict(x, y)
					}
				}
				good, bad := goodSlowly(l, 5), badSlowly(l, 5)
				checkAnswers(t, l, 5, good, bad, agreed)
				if good >= bad {
					t.Errorf("the times from %d to %d are good and bad by %v", bad, good, l)
				}
			}
		}
	}
}

func TestAnswersLeaveArgumentsAlone(t *testing.T) {
	for _, list := range [][]impl.Status{{}, someStatuses} {
		l := spareOf(list, bad(3, 2))
		checkUnchanged(t, "answers", l,
			func() { impl.GoodUntil(l, 5) }, func() { impl.BadFrom(l, 5) }, func() { impl.IsAgreed(l, 5) },
			func() { impl.GoodUntil(l, 6) }, func() { impl.BadFrom(l, 6) }, func() { impl.IsAgreed(l, 6) })
	}
	keys := spareKeys(fewKeys)
	for _, x := range append(slices.Clone(someStatuses), impl.Status{}) {
		checkUnchanged(t, "answers", keys, func() { impl.MakeStatus(keys, x) }, func() { impl.CheckStatus(keys, x) })
	}
}
