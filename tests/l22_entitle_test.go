package tests

import (
	"math"
	"slices"
	"testing"

	"loop.example/g00597/impl"
)

// lasting returns a certificate with the Serial 5 from one time to another.
func lasting(from int, to int) impl.Cert {
	return cert(5, 11, 1, from, to, 1)
}

// goodTimesSlowly tells by the definition alone which times are good.
func goodTimesSlowly(x impl.Cert, l []impl.Status) timeSet {
	set := make(timeSet, impl.MaxTime+1)
	until := goodSlowly(l, x.Serial)
	for t := range set {
		set[t] = x.From >= 0 && x.To <= 10000 && x.From <= t && t <= x.To && t <= until && until <= 10000
	}
	return set
}

// badTimesSlowly tells by the definition alone which times are bad.
func badTimesSlowly(x impl.Cert, l []impl.Status) timeSet {
	set := make(timeSet, impl.MaxTime+1)
	from := badSlowly(l, x.Serial)
	for t := range set {
		set[t] = t < x.From || t > x.To || t >= from
	}
	return set
}

func checkSpans(t *testing.T, name string, x impl.Cert, l []impl.Status, got []impl.Span, want []impl.Span) {
	t.Helper()
	if !slices.Equal(got, want) {
		t.Errorf("%s(%v, %v) = %v, want %v", name, x, l, got, want)
	}
}

// checkTimes checks the good, the bad and the open times.
func checkTimes(t *testing.T, x impl.Cert, l []impl.Status, good []impl.Span, bad []impl.Span, open []impl.Span) {
	t.Helper()
	checkSpans(t, "GoodSpans", x, l, impl.GoodSpans(x, l), good)
	checkSpans(t, "BadSpans", x, l, impl.BadSpans(x, l), bad)
	checkSpans(t, "OpenTimes", x, l, impl.OpenTimes(x, l), open)
	checkTimesAsDefined(t, x, l)
}

// checkTimesAsDefined checks them by their definition, and that each time is in one of the three only.
func checkTimesAsDefined(t *testing.T, x impl.Cert, l []impl.Status) {
	t.Helper()
	good, bad := goodTimesSlowly(x, l), badTimesSlowly(x, l)
	open := make(timeSet, len(good))
	for i := range open {
		open[i] = !good[i] && !bad[i]
		if good[i] && bad[i] {
			t.Fatalf("the time %d is good and bad for %v by %v", i, x, l)
		}
	}
	checkSpans(t, "GoodSpans", x, l, impl.GoodSpans(x, l), good.spans())
	checkSpans(t, "BadSpans", x, l, impl.BadSpans(x, l), bad.spans())
	checkSpans(t, "OpenTimes", x, l, impl.OpenTimes(x, l), open.spans())
}

func TestTimesOfOneCertificate(t *testing.T) {
	const top = impl.MaxTime
	x := lasting(10, 50)
	around := []impl.Span{span(0, 9), span(51, top)}
	before := []impl.Span{span(0, 9)}
	cases := []struct {
		l    []impl.Status
		good []impl.Span
		bad  []impl.Span
		open []impl.Span
	}{
		{nil, nil, around, []impl.Span{span(10, 50)}}, {[]impl.Status{}, nil, around, []impl.Span{span(10, 50)}},
		// As of a time before the certificate, in it, at its ends and behind it.
		{[]impl.Status{good(0)}, nil, around, []impl.Span{span(10, 50)}}, {[]impl.Status{good(9)}, nil, around, []impl.Span{span(10, 50)}}, {[]impl.Status{good(10)}, []impl.Span{span(10, 10)}, around, []impl.Span{span(11, 50)}},
		{[]impl.Status{good(30)}, []impl.Span{span(10, 30)}, around, []impl.Span{span(31, 50)}}, {[]impl.Status{good(49)}, []impl.Span{span(10, 49)}, around, []impl.Span{span(50, 50)}},
		{[]impl.Status{good(50)}, []impl.Span{span(10, 50)}, around, nil}, {[]impl.Status{good(51)}, []impl.Span{span(10, 50)}, around, nil}, {[]impl.Status{good(top)}, []impl.Span{span(10, 50)}, around, nil},
		// It ended before it began, at its first instant, in between, and at its end or behind it.
		{[]impl.Status{bad(60, 0)}, nil, []impl.Span{span(0, top)}, nil}, {[]impl.Status{bad(60, 9)}, nil, []impl.Span{span(0, top)}, nil}, {[]impl.Status{bad(60, 10)}, nil, []impl.Span{span(0, top)}, nil},
		{[]impl.Status{bad(60, 11)}, []impl.Span{span(10, 10)}, []impl.Span{span(0, 9), span(11, top)}, nil}, {[]impl.Status{bad(60, 40)}, []impl.Span{span(10, 39)}, []impl.Span{span(0, 9), span(40, top)}, nil},
		{[]impl.Status{bad(60, 50)}, []impl.Span{span(10, 49)}, []impl.Span{span(0, 9), span(50, top)}, nil}, {[]impl.Status{bad(60, 51)}, []impl.Span{span(10, 50)}, around, nil}, {[]impl.Status{bad(60, 52)}, []impl.Span{span(10, 50)}, around, nil},
		// Several that agree, and several that contradict one another.
		{[]impl.Status{good(20), good(30), good(25)}, []impl.Span{span(10, 30)}, around, []impl.Span{span(31, 50)}}, {[]impl.Status{good(30), bad(60, 40)}, []impl.Span{span(10, 39)}, []impl.Span{span(0, 9), span(40, top)}, nil},
		{[]impl.Status{good(45), bad(60, 40)}, []impl.Span{span(10, 39)}, []impl.Span{span(0, 9), span(46, top)}, []impl.Span{span(40, 45)}}, {[]impl.Status{bad(60, 20), bad(60, 40)}, []impl.Span{span(10, 19)}, []impl.Span{span(0, 9), span(40, top)}, []impl.Span{span(20, 39)}},
		{[]impl.Status{bad(60, 5), bad(60, 40)}, nil, []impl.Span{span(0, 9), span(40, top)}, []impl.Span{span(10, 39)}}, {[]impl.Status{bad(60, 20), bad(60, 55)}, []impl.Span{span(10, 19)}, around, []impl.Span{span(20, 50)}},
		{[]impl.Status{good(top), bad(60, 20)}, []impl.Span{span(10, 19)}, around, []impl.Span{span(20, 50)}},
		// About another Serial.
		{[]impl.Status{status(6, 30, -1, 1), status(4, 60, 20, 1)}, nil, around, []impl.Span{span(10, 50)}}, {[]impl.Status{status(6, 60, 12, 1), good(30)}, []impl.Span{span(10, 30)}, around, []impl.Span{span(31, 50)}},
		// Ended behind the last time.
		{[]impl.Status{bad(top, top+1)}, []impl.Span{span(10, 50)}, around, nil}, {[]impl.Status{bad(top, top)}, []impl.Span{span(10, 50)}, around, nil},
		// The answers need not be valid. Good until a time beyond the last one is good at no time.
		{[]impl.Status{good(top + 1)}, nil, around, []impl.Span{span(10, 50)}}, {[]impl.Status{good(math.MaxInt)}, nil, around, []impl.Span{span(10, 50)}}, {[]impl.Status{good(-1)}, nil, around, []impl.Span{span(10, 50)}}, {[]impl.Status{good(math.MinInt)}, nil, around, []impl.Span{span(10, 50)}},
		{[]impl.Status{bad(5, top+2)}, nil, around, []impl.Span{span(10, 50)}}, {[]impl.Status{bad(5, math.MaxInt)}, nil, around, []impl.Span{span(10, 50)}}, {[]impl.Status{good(math.MaxInt), bad(5, 20)}, []impl.Span{span(10, 19)}, []impl.Span{span(0, 9), span(20, top)}, nil},
	}
	for _, c := range cases {
		checkTimes(t, x, c.l, c.good, c.bad, c.open)
	}
	checkTimes(t, lasting(10, top), []impl.Status{bad(60, 40)}, []impl.Span{span(10, 39)}, []impl.Span{span(0, 9), span(40, top)}, nil)
	checkTimes(t, lasting(10, top), []impl.Status{good(40)}, []impl.Span{span(10, 40)}, before, []impl.Span{span(41, top)})
}

func TestTimesOfOtherCertificates(t *testing.T) {
	const top = impl.MaxTime
	whole := []impl.Span{span(0, top)}
	// From the first time, to the last one, and of one instant.
	checkTimes(t, lasting(0, top), nil, nil, nil, whole)
	checkTimes(t, lasting(0, top), []impl.Status{good(top)}, whole, nil, nil)
	checkTimes(t, lasting(0, top), []impl.Status{bad(9, 0)}, nil, whole, nil)
	checkTimes(t, lasting(0, top), []impl.Status{bad(9, 1)}, []impl.Span{span(0, 0)}, []impl.Span{span(1, top)}, nil)
	checkTimes(t, lasting(0, 50), []impl.Status{good(0)}, []impl.Span{span(0, 0)}, []impl.Span{span(51, top)}, []impl.Span{span(1, 50)})
	checkTimes(t, lasting(1, top-1), []impl.Status{good(5)}, []impl.Span{span(1, 5)}, []impl.Span{span(0, 0), span(top, top)}, []impl.Span{span(6, top-1)})
	checkTimes(t, lasting(top, top), []impl.Status{good(top)}, []impl.Span{span(top, top)}, []impl.Span{span(0, top-1)}, nil)
	checkTimes(t, lasting(7, 7), nil, nil, []impl.Span{span(0, 6), span(8, top)}, []impl.Span{span(7, 7)})
	checkTimes(t, lasting(7, 7), []impl.Status{bad(9, 7)}, nil, whole, nil)
	checkTimes(t, lasting(0, 0), []impl.Status{good(3)}, []impl.Span{span(0, 0)}, []impl.Span{span(1, top)}, nil)
	// Certificates that are not valid are good at no time.
	answers := []impl.Status{good(top)}
	checkTimes(t, lasting(20, 10), answers, nil, whole, nil)
	checkTimes(t, lasting(11, 10), answers, nil, whole, nil)
	checkTimes(t, lasting(-5, 10), answers, nil, []impl.Span{span(11, top)}, []impl.Span{span(0, 10)})
	checkTimes(t, lasting(10, top+1), answers, nil, []impl.Span{span(0, 9)}, []impl.Span{span(10, top)})
	checkTimes(t, lasting(-9, -3), answers, nil, whole, nil)
	checkTimes(t, lasting(top+1, top+5), answers, nil, whole, nil)
	checkTimes(t, lasting(math.MinInt, math.MaxInt), answers, nil, nil, whole)
	checkTimes(t, lasting(math.MinInt, 10), answers, nil, []impl.Span{span(11, top)}, []impl.Span{span(0, 10)})
	checkTimes(t, lasting(10, math.MaxInt), answers, nil, []impl.Span{span(0, 9)}, []impl.Span{span(10, top)})
	checkTimes(t, lasting(math.MaxInt, math.MinInt), answers, nil, whole, nil)
	checkTimes(t, lasting(-1, top+1), []impl.Status{bad(9, 4)}, nil, []impl.Span{span(4, top)}, []impl.Span{span(0, 3)})
	// Only the Serial and the span count.
	x := impl.Cert{Serial: -3, Key: -1, Owner: -1, From: 10, To: 20, Issuer: -1, Mark: -1}
	checkTimes(t, x, []impl.Status{status(-3, 15, -1, 7)}, []impl.Span{span(10, 15)}, []impl.Span{span(0, 9), span(21, top)}, []impl.Span{span(16, 20)})
}

// Good and bad times are apart, for all certificates and answers of a few kinds.
func TestTimesAsDefined(t *testing.T) {
	certs := []impl.Cert{lasting(3, 6), lasting(0, 4), lasting(5, impl.MaxTime), lasting(4, 4), lasting(6, 3), lasting(-2, 5), lasting(4, impl.MaxTime+7)}
	some := []impl.Status{good(0), good(2), good(3), good(5), good(7), bad(9, 0), bad(9, 3), bad(9, 4), bad(9, 6), bad(9, 7), bad(9, 8), status(6, 9, 4, 1), good(impl.MaxTime)}
	for _, x := range certs {
		checkTimesAsDefined(t, x, nil)
		for i, a := range some {
			for _, b := range some[i:] {
				checkTimesAsDefined(t, x, []impl.Status{a, b})
			}
		}
	}
}

func checkSpanOf(t *testing.T, x impl.Cert, l []impl.Status, s impl.Span, entitled bool, barred bool) {
	t.Helper()
	if got := impl.IsEntitled(x, l, s); got != entitled {
		t.Errorf("IsEntitled(%v, %v, %v) = %t", x, l, s, got)
	}
	if got := impl.IsBarred(x, l, s); got != barred {
		t.Errorf("IsBarred(%v, %v, %v) = %t", x, l, s, got)
	}
}

func TestIsEntitledAndIsBarred(t *testing.T) {
	const top = impl.MaxTime
	x := lasting(10, 50)
	until, ended := []impl.Status{good(30)}, []impl.Status{bad(60, 40)}
	cases := []struct {
		l        []impl.Status
		s        impl.Span
		entitled bool
		barred   bool
	}{
		{until, span(10, 30), true, false}, {until, span(9, 30), false, false}, {until, span(10, 31), false, false}, {until, span(10, 10), true, false}, {until, span(30, 30), true, false}, {until, span(31, 31), false, false}, {until, span(9, 9), false, true},
		{until, span(0, 9), false, true}, {until, span(0, 10), false, false}, {until, span(51, top), false, true}, {until, span(50, top), false, false}, {until, span(31, 50), false, false}, {until, span(51, 51), false, true}, {until, span(50, 50), false, false},
		{ended, span(10, 39), true, false}, {ended, span(10, 40), false, false}, {ended, span(40, 40), false, true}, {ended, span(39, 39), true, false}, {ended, span(39, 40), false, false}, {ended, span(40, top), false, true}, {ended, span(45, 55), false, true}, {ended, span(5, 12), false, false},
		// It is barred before and after, but not in between.
		{ended, span(0, top), false, false}, {nil, span(0, top), false, false}, {nil, span(3, 9), false, true}, {nil, span(20, 20), false, false}, {nil, span(9, 10), false, false},
		// Spans that are not valid.
		{until, span(30, 10), false, false}, {until, span(20, 19), false, false}, {ended, span(-1, 5), false, false}, {ended, span(45, top+1), false, false}, {ended, span(math.MinInt, math.MaxInt), false, false}, {ended, span(50, 45), false, false},
	}
	for _, c := range cases {
		checkSpanOf(t, x, c.l, c.s, c.entitled, c.barred)
	}
	checkSpanOf(t, lasting(20, 10), []impl.Status{good(top)}, span(0, top), false, true)
	checkSpanOf(t, lasting(0, top), []impl.Status{good(top)}, span(0, top), true, false)
	checkSpanOf(t, lasting(0, top), nil, span(0, top), false, false)
	for _, x := range []impl.Cert{lasting(3, 6), lasting(0, 9), lasting(6, 3)} {
		for _, l := range [][]impl.Status{nil, {good(4)}, {bad(9, 5)}, {bad(9, 5), good(7)}, {bad(9, 4), bad(9, 6)}} {
			good, bad := goodTimesSlowly(x, l), badTimesSlowly(x, l)
			for from := range 11 {
				for to := from; to < 11; to++ {
					checkSpanOf(t, x, l, span(from, to), good.holds(span(from, to)), bad.holds(span(from, to)))
				}
			}
		}
	}
}

func TestEntitlementLeavesArgumentsAlone(t *testing.T) {
	for _, list := range [][]impl.Status{{}, {good(30)}, {bad(60, 40), good(45), status(6, 3, 2, 1)}} {
		l := spareOf(list, bad(60, 12))
		x := lasting(10, 50)
		checkApart(t, "GoodSpans", l, bad(3, 2), span(-1, -2), func() []impl.Span { return impl.GoodSpans(x, l) })
		checkApart(t, "BadSpans", l, bad(3, 2), span(-1, -2), func() []impl.Span { return impl.BadSpans(x, l) })
		checkApart(t, "OpenTimes", l, bad(3, 2), span(-1, -2), func() []impl.Span { return impl.OpenTimes(x, l) })
		checkUnchanged(t, "entitlement", l, func() { impl.IsEntitled(x, l, span(10, 20)) }, func() { impl.IsBarred(x, l, span(10, 20)) })
	}
}
