package tests

import (
	"math"
	"slices"
	"testing"

	"loop.example/g00597/impl"
)

func mandate(org int, person int, from int, to int, key int) impl.Mandate {
	return impl.Mandate{Org: org, Person: person, From: from, To: to, Key: key}
}

// someMandates are valid, and made with the organization's own key of fewKeys.
var someMandates = []impl.Mandate{
	mandate(90, 1, 5, 9, 1), mandate(90, 0, 0, impl.MaxTime, 2), mandate(1, 99, 7, 7, 11),
	mandate(1, 1, 0, 0, 12), mandate(2, 5, impl.MaxTime, impl.MaxTime, 14), mandate(83, 2, 40, 41, 33),
}

var mandateFields = []field[impl.Mandate]{
	{"Org", func(x *impl.Mandate) *int { return &x.Org }, 1, 99},
	{"Person", func(x *impl.Mandate) *int { return &x.Person }, 0, 99},
	{"From", func(x *impl.Mandate) *int { return &x.From }, 0, impl.MaxTime},
	{"To", func(x *impl.Mandate) *int { return &x.To }, 0, impl.MaxTime},
	{"Key", func(x *impl.Mandate) *int { return &x.Key }, 1, 99},
	{"Mark", func(x *impl.Mandate) *int { return &x.Mark }, 0, impl.Modulus - 1},
}

var mandates = statement[impl.Mandate]{
	name:   "mandate",
	make:   impl.MakeMandate,
	check:  impl.CheckMandate,
	ints:   func(x impl.Mandate) []int { return []int{105, x.Org, x.Person, x.From, x.To, x.Key} },
	fields: mandateFields,
	key:    func(x *impl.Mandate) *int { return &x.Key },
	mark:   func(x *impl.Mandate) *int { return &x.Mark },
}

// mandateBy returns a mandate with the mark of its key of fewKeys.
func mandateBy(org int, person int, from int, to int, number int) impl.Mandate {
	k, _ := keySlowly(fewKeys, number)
	return mandates.markedBy(k, mandate(org, person, from, to, number))
}

// mandateHoldsSlowly tells by the definition alone what CheckMandate returns.
func mandateHoldsSlowly(keys []impl.Key, x impl.Mandate) bool {
	k, i := keySlowly(keys, x.Key)
	return i >= 0 && k.Owner == x.Org && x == mandates.markedBy(k, x) && impl.IsMandate(x)
}

// mandatedSlowly returns the times at which the person may sign for the organization, by the definition alone.
func mandatedSlowly(keys []impl.Key, l []impl.Mandate, org int, person int) timeSet {
	spans := []impl.Span{}
	for _, x := range l {
		if x.Org == org && x.Person == person && mandateHoldsSlowly(keys, x) {
			spans = append(spans, span(x.From, x.To))
		}
	}
	return timesOf(spans)
}

func spareMandates(l []impl.Mandate) []impl.Mandate {
	return spareOf(l, mandateBy(90, 1, 0, impl.MaxTime, 1))
}

func TestIsMandate(t *testing.T) {
	fields := slices.Clone(mandateFields[:5])
	fields[2].high, fields[3].low = 700, 600
	checkFields(t, mandate(50, 1, 600, 700, 21), impl.IsMandate, fields)
	for _, x := range someMandates {
		// The mark does not matter.
		for _, mark := range []int{0, -1, math.MaxInt, math.MinInt} {
			x.Mark = mark
			if !impl.IsMandate(x) {
				t.Errorf("IsMandate(%v) = false", x)
			}
		}
	}
	for _, s := range someSpans {
		if got := impl.IsMandate(mandate(50, 1, s.From, s.To, 21)); got != impl.IsSpan(s) {
			t.Errorf("IsMandate from %d to %d = %t", s.From, s.To, got)
		}
	}
	for _, s := range badSpans {
		if impl.IsMandate(mandate(50, 1, s.From, s.To, 21)) {
			t.Errorf("IsMandate from %d to %d = true", s.From, s.To)
		}
	}
	if impl.IsMandate(impl.Mandate{}) {
		t.Error("the zero Mandate is valid")
	}
}

func TestMandateInts(t *testing.T) {
	if got := impl.MandateInts(impl.Mandate{Org: 2, Person: 3, From: 4, To: 5, Key: 6, Mark: 7}); !slices.Equal(got, []int{105, 2, 3, 4, 5, 6}) {
		t.Errorf("MandateInts = %v", got)
	}
	mandates.checkInts(t, impl.MandateInts, append(slices.Clone(someMandates), impl.Mandate{}, mandate(-1, math.MinInt, math.MaxInt, -9, 1000)))
}

func TestMakeMandate(t *testing.T) {
	mandates.checkAnyOldMark(t, someMandates)
	if got := mandates.made(t, fewKeys, mandate(90, 1, 5, 9, 1)); got.Mark != hashSlowly([]int{501, 1, 105, 90, 1, 5, 9, 1, 501}) {
		t.Errorf("MakeMandate returns %v", got)
	}
}

func TestMakeMandateThatIsNotValid(t *testing.T) {
	mandates.checkRanges(t, someMandates)
	for _, x := range someMandates {
		for _, s := range badSpans {
			x.From, x.To = s.From, s.To
			mandates.checkNotMade(t, fewKeys, x)
		}
	}
}

func TestMandatesAreCheckedAsTheyWereMade(t *testing.T) {
	mandates.checkMarks(t, someMandates)
	// The first key with the Number counts.
	keys := []impl.Key{key(1, 90, 1, 0, 5), key(1, 90, 1, 0, 6)}
	mandates.checkHolds(t, keys, mandates.made(t, keys, mandate(90, 1, 5, 9, 1)), true)
	mandates.checkHolds(t, keys, mandates.made(t, keys[1:], mandate(90, 1, 5, 9, 1)), false)
}

// Whoever has a key can make a mandate for any organization, but only the own ones check.
func TestMandateByKeyOfAnotherOwner(t *testing.T) {
	for _, k := range fewKeys {
		for _, org := range []int{1, 2, 50, 81, 82, 83, 90, 99} {
			x := mandates.made(t, fewKeys, mandate(org, 1, 5, 9, k.Number))
			mandates.checkHolds(t, fewKeys, x, k.Owner == org)
		}
	}
	// The owner of the first key with the Number counts.
	keys := []impl.Key{key(1, 5, 1, 0, 9), key(1, 6, 1, 0, 9)}
	for org := 4; org <= 7; org++ {
		mandates.checkHolds(t, keys, mandates.made(t, keys, mandate(org, 1, 5, 9, 1)), org == 5)
	}
	// Keys whose owners are not valid: no mandate is of these.
	for _, owner := range []int{0, -1, 100, math.MinInt} {
		mandates.checkNotMade(t, []impl.Key{key(1, owner, 1, 0, 9)}, mandate(owner, 1, 5, 9, 1))
	}
}

func checkMandated(t *testing.T, keys []impl.Key, l []impl.Mandate, org int, person int, want []impl.Span) {
	t.Helper()
	if got := impl.MandateSpans(keys, l, org, person); !slices.Equal(got, want) {
		t.Errorf("MandateSpans(%v, %d, %d) = %v, want %v", l, org, person, got, want)
	}
}

func TestMandateSpans(t *testing.T) {
	by := func(from int, to int) impl.Mandate { return mandateBy(90, 5, from, to, 1) }
	off, longer := by(100, 200), by(300, 400)
	off.Mark++
	longer.To = 500
	// The mark is right, but the mandate is not valid.
	backward, person := by(50, 40), mandateBy(90, 100, 60, 70, 1)
	cases := []struct {
		l    []impl.Mandate
		want []impl.Span
	}{
		{nil, nil}, {[]impl.Mandate{}, nil}, {[]impl.Mandate{by(5, 9)}, []impl.Span{span(5, 9)}}, {[]impl.Mandate{by(7, 7)}, []impl.Span{span(7, 7)}},
		{[]impl.Mandate{by(0, impl.MaxTime)}, []impl.Span{span(0, impl.MaxTime)}},
		// They overlap, touch, leave a gap of one time or of more, are inside one another, and occur twice.
		{[]impl.Mandate{by(5, 9), by(8, 20)}, []impl.Span{span(5, 20)}}, {[]impl.Mandate{by(10, 20), by(5, 9)}, []impl.Span{span(5, 20)}},
		{[]impl.Mandate{by(5, 9), by(11, 20)}, []impl.Span{span(5, 9), span(11, 20)}}, {[]impl.Mandate{by(30, 40), by(5, 9)}, []impl.Span{span(5, 9), span(30, 40)}},
		{[]impl.Mandate{by(5, 20), by(8, 9)}, []impl.Span{span(5, 20)}}, {[]impl.Mandate{by(5, 9), by(5, 9)}, []impl.Span{span(5, 9)}},
		{[]impl.Mandate{by(30, 40), by(5, 9), by(12, 29), by(10, 10)}, []impl.Span{span(5, 10), span(12, 40)}},
		// By another key of the organization.
		{[]impl.Mandate{by(5, 9), mandateBy(90, 5, 10, 12, 2)}, []impl.Span{span(5, 12)}},
		// Of these, none counts.
		{[]impl.Mandate{off, longer, backward, person, {}}, nil},
		{[]impl.Mandate{mandateBy(81, 5, 5, 9, 31), mandateBy(90, 4, 5, 9, 1), mandateBy(90, 5, 5, 9, 11), mandateBy(90, 5, 5, 9, 31)}, nil},
		{[]impl.Mandate{off, by(5, 9), longer, mandateBy(90, 6, 10, 12, 1)}, []impl.Span{span(5, 9)}},
	}
	for _, c := range cases {
		checkMandated(t, fewKeys, c.l, 90, 5, c.want)
		checkMandated(t, nil, c.l, 90, 5, nil)
		checkMandated(t, fewKeys, c.l, 91, 5, nil)
		checkMandated(t, fewKeys, c.l, 90, 7, nil)
		checkMandated(t, fewKeys, c.l, 0, 5, nil)
		checkMandated(t, fewKeys, c.l, 5, 90, nil)
	}
	checkMandated(t, fewKeys, []impl.Mandate{person}, 90, 100, nil)
	checkMandated(t, fewKeys, []impl.Mandate{{}}, 0, 0, nil)
}

func checkMaySign(t *testing.T, l []impl.Mandate, org int, person int, s impl.Span, want bool) {
	t.Helper()
	if got := impl.MaySignFor(fewKeys, l, org, person, s); got != want {
		t.Errorf("MaySignFor(%v, %d, %d, %v) = %t", l, org, person, s, got)
	}
}

func TestMaySignFor(t *testing.T) {
	by := func(from int, to int) impl.Mandate { return mandateBy(90, 5, from, to, 1) }
	apart, together := []impl.Mandate{by(5, 9), by(11, 20)}, []impl.Mandate{by(11, 20), by(5, 9), by(10, 10)}
	cases := []struct {
		l    []impl.Mandate
		s    impl.Span
		want bool
	}{
		{nil, span(5, 9), false}, {apart, span(5, 9), true}, {apart, span(4, 9), false}, {apart, span(5, 10), false}, {apart, span(6, 6), true},
		{apart, span(10, 10), false}, {apart, span(9, 11), false}, {apart, span(11, 20), true}, {apart, span(20, 21), false}, {apart, span(10, 11), false},
		{together, span(5, 20), true}, {together, span(9, 11), true}, {together, span(4, 20), false}, {together, span(5, 21), false},
		{[]impl.Mandate{by(0, impl.MaxTime)}, span(0, impl.MaxTime), true}, {[]impl.Mandate{by(1, impl.MaxTime)}, span(0, impl.MaxTime), false},
		{together, span(9, 8), false}, {together, span(-1, 8), false}, {[]impl.Mandate{by(0, impl.MaxTime)}, span(0, impl.MaxTime+1), false},
		{[]impl.Mandate{by(0, impl.MaxTime)}, span(math.MinInt, math.MaxInt), false},
	}
	for _, c := range cases {
		checkMaySign(t, c.l, 90, 5, c.s, c.want)
		checkMaySign(t, c.l, 91, 5, c.s, false)
		checkMaySign(t, c.l, 90, 6, c.s, false)
		if impl.MaySignFor(nil, c.l, 90, 5, c.s) {
			t.Errorf("MaySignFor(%v, %v) without keys", c.l, c.s)
		}
	}
}

// For nobody else, everybody may sign, whoever it is and whatever mandates there are.
func TestMaySignForNobodyElse(t *testing.T) {
	for _, l := range [][]impl.Mandate{nil, someMandates, {mandate(0, 5, 0, impl.MaxTime, 1)}} {
		for _, person := range []int{5, 0, -1, 100, math.MaxInt} {
			for _, s := range someSpans {
				checkMaySign(t, l, 0, person, s, s.From >= 0 && s.From <= s.To && s.To <= 10000)
			}
			for _, s := range badSpans {
				checkMaySign(t, l, 0, person, s, false)
			}
		}
	}
	// Other numbers that no organization has stand for no one.
	for _, org := range []int{-1, 100, math.MinInt, 1 << 32} {
		checkMaySign(t, []impl.Mandate{mandateBy(org, 5, 0, 99, 1)}, org, 5, span(3, 4), false)
	}
}

// Mandates cover what is signed, and nothing else.
func TestMandatesAsDefined(t *testing.T) {
	some := []impl.Mandate{mandateBy(90, 5, 1, 3, 1), mandateBy(90, 5, 3, 6, 2), mandateBy(90, 5, 4, 4, 1), mandateBy(90, 5, 8, 9, 1), mandateBy(90, 4, 6, 8, 1), mandateBy(90, 5, 6, 8, 11), mandateBy(81, 5, 0, 9, 31)}
	for _, list := range subsets(len(some)) {
		l := []impl.Mandate{}
		for _, i := range list {
			l = append(l, some[i])
		}
		times := mandatedSlowly(fewKeys, l, 90, 5)
		checkMandated(t, fewKeys, l, 90, 5, times.spans())
		for from := range 11 {
			for to := from; to < 11; to++ {
				checkMaySign(t, l, 90, 5, span(from, to), times.holds(span(from, to)))
			}
		}
	}
}

func TestMandatesLeaveArgumentsAlone(t *testing.T) {
	keys := spareKeys(fewKeys)
	for _, list := range [][]impl.Mandate{{}, someMandates, {mandateBy(90, 5, 30, 40, 1), mandateBy(90, 5, 5, 9, 1), mandateBy(90, 5, 50, 60, 1)}} {
		l := spareMandates(list)
		checkApart(t, "MandateSpans", l, mandate(1, 2, 3, 4, 5), span(-1, -2), func() []impl.Span { return impl.MandateSpans(keys, l, 90, 5) })
		checkUnchanged(t, "mandates", l, func() { impl.MaySignFor(keys, l, 90, 5, span(5, 40)) }, func() { impl.MandateSpans(keys, l, 90, 1) })
		checkUnchanged(t, "mandates", keys, func() { impl.MandateSpans(keys, l, 90, 5) }, func() { impl.MaySignFor(keys, l, 90, 5, span(5, 9)) })
	}
	for _, x := range append(slices.Clone(someMandates), impl.Mandate{}) {
		checkUnchanged(t, "mandates", keys, func() { impl.MakeMandate(keys, x) }, func() { impl.CheckMandate(keys, x) })
	}
}
