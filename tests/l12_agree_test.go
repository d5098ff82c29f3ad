package tests

import (
	"math"
	"slices"
	"testing"

	"loop.example/g00597/impl"
)

// strangeTimes are not in any valid span, and those at the edges are.
var strangeTimes = []int{-1, -2, impl.MaxTime + 1, impl.MaxTime + 2, math.MinInt, math.MaxInt}

// countsOf returns for each time how many valid spans of l have it, by the definition alone.
func countsOf(l []impl.Span) []int {
	counts := make([]int, impl.MaxTime+1)
	for _, s := range l {
		if s.From < 0 || s.To > impl.MaxTime {
			continue
		}
		for t := s.From; t <= s.To; t++ {
			counts[t]++
		}
	}
	return counts
}

// agreedSlowly tells by the definition alone what AgreedSpan returns, from the counts of n spans.
func agreedSlowly(counts []int, n int, liars int) (impl.Span, bool) {
	if liars < 0 || liars >= n {
		return impl.Span{}, false
	}
	first, last := -1, -1
	for t, count := range counts {
		if count < n-liars {
			continue
		}
		if first < 0 {
			first = t
		}
		last = t
	}
	if first < 0 {
		return impl.Span{}, false
	}
	return span(first, last), true
}

func checkAgreedSpan(t *testing.T, l []impl.Span, liars int, want impl.Span, wantOk bool) {
	t.Helper()
	if got, ok := impl.AgreedSpan(l, liars); got != want || ok != wantOk {
		t.Errorf("AgreedSpan(%v, %d) = %v, %t, want %v, %t", l, liars, got, ok, want, wantOk)
	}
}

// checkNoAgreement checks that there is no agreed span for any of the numbers of liars.
func checkNoAgreement(t *testing.T, l []impl.Span, liars ...int) {
	t.Helper()
	for _, n := range liars {
		checkAgreedSpan(t, l, n, impl.Span{}, false)
	}
}

func TestCountAt(t *testing.T) {
	l := []impl.Span{span(3, 9), span(9, 12), span(5, 5), span(3, 9), span(9, 3), span(-1, 20), span(5, impl.MaxTime+1), span(0, 0), span(impl.MaxTime, impl.MaxTime)}
	for time, want := range map[int]int{0: 1, 1: 0, 2: 0, 3: 2, 4: 2, 5: 3, 6: 2, 8: 2, 9: 3, 10: 1, 12: 1, 13: 0, impl.MaxTime - 1: 0, impl.MaxTime: 1} {
		if got := impl.CountAt(l, time); got != want {
			t.Errorf("CountAt(%v, %d) = %d, want %d", l, time, got, want)
		}
	}
	for _, list := range [][]impl.Span{nil, {}, l, someSpans, badSpans, {span(0, impl.MaxTime)}} {
		counts := countsOf(list)
		for time, want := range counts {
			if got := impl.CountAt(list, time); got != want {
				t.Errorf("CountAt(%v, %d) = %d, want %d", list, time, got, want)
			}
		}
		// Also spans that are not valid and go beyond the ends of time do not count.
		for _, time := range strangeTimes {
			if got := impl.CountAt(list, time); got != 0 {
				t.Errorf("CountAt(%v, %d) = %d, want 0", list, time, got)
			}
		}
	}
}

func TestAgreedSpan(t *testing.T) {
	const top = impl.MaxTime
	cases := []struct {
		l     []impl.Span
		liars int
		want  impl.Span
	}{
		{[]impl.Span{span(3, 9)}, 0, span(3, 9)}, {[]impl.Span{span(0, top)}, 0, span(0, top)}, {[]impl.Span{span(0, 0)}, 0, span(0, 0)}, {[]impl.Span{span(top, top)}, 0, span(top, top)},
		{[]impl.Span{span(3, 9), span(5, 12)}, 0, span(5, 9)}, {[]impl.Span{span(5, 12), span(3, 9)}, 0, span(5, 9)}, {[]impl.Span{span(3, 9), span(5, 12)}, 1, span(3, 12)},
		{[]impl.Span{span(3, 9), span(5, 6)}, 0, span(5, 6)}, {[]impl.Span{span(3, 9), span(5, 6)}, 1, span(3, 9)}, {[]impl.Span{span(3, 9), span(3, 9)}, 0, span(3, 9)},
		// They meet in one time only.
		{[]impl.Span{span(3, 9), span(9, 12)}, 0, span(9, 9)}, {[]impl.Span{span(9, 12), span(3, 9)}, 0, span(9, 9)}, {[]impl.Span{span(9, 9), span(9, 9), span(9, 9)}, 0, span(9, 9)},
		{[]impl.Span{span(3, 9), span(9, 12), span(0, 9)}, 0, span(9, 9)}, {[]impl.Span{span(0, 0), span(0, top)}, 0, span(0, 0)}, {[]impl.Span{span(top, top), span(0, top)}, 0, span(top, top)},
		// One lies, and the others agree.
		{[]impl.Span{span(3, 9), span(5, 12), span(20, 21)}, 1, span(5, 9)}, {[]impl.Span{span(3, 9), span(10, 12), span(9, 10)}, 1, span(9, 10)},
		// Times between are in too few of the spans.
		{[]impl.Span{span(3, 4), span(8, 9)}, 1, span(3, 9)}, {[]impl.Span{span(8, 9), span(0, 0), span(top, top)}, 2, span(0, top)},
		{[]impl.Span{span(3, 6), span(5, 9), span(8, 12)}, 1, span(5, 9)}, {[]impl.Span{span(3, 6), span(6, 9), span(9, 12), span(0, 20)}, 1, span(6, 9)},
		{[]impl.Span{span(3, 6), span(6, 9), span(9, 12), span(0, 20)}, 2, span(3, 12)}, {[]impl.Span{span(3, 6), span(6, 9), span(9, 12), span(0, 20)}, 3, span(0, 20)},
		// Those that are not valid lie, but count.
		{[]impl.Span{span(3, 9), span(9, 3)}, 1, span(3, 9)}, {[]impl.Span{span(-1, 4), span(3, 9), span(8, top+1), span(5, 12)}, 2, span(5, 9)},
		{[]impl.Span{span(-1, 4), span(3, 9), span(8, top+1), span(5, 12)}, 3, span(3, 12)},
	}
	for _, c := range cases {
		checkAgreedSpan(t, c.l, c.liars, c.want, true)
		turned := slices.Clone(c.l)
		slices.Reverse(turned)
		checkAgreedSpan(t, turned, c.liars, c.want, true)
	}
}

func TestNoAgreedSpan(t *testing.T) {
	checkNoAgreement(t, nil, -1, 0, 1, math.MinInt, math.MaxInt)
	checkNoAgreement(t, []impl.Span{}, -1, 0, 1)
	checkNoAgreement(t, []impl.Span{span(3, 9)}, -1, 1, 2, math.MinInt, math.MaxInt)
	// There are as many liars as spans, or more, or a negative number of them.
	same := slices.Repeat([]impl.Span{span(3, 9)}, 4)
	checkNoAgreement(t, same, -1, -2, 4, 5, 6, math.MinInt, math.MaxInt)
	for liars := range 4 {
		checkAgreedSpan(t, same, liars, span(3, 9), true)
	}
	// No time is in enough of them.
	checkNoAgreement(t, []impl.Span{span(3, 9), span(10, 12)}, 0)
	checkNoAgreement(t, []impl.Span{span(10, 12), span(3, 9)}, 0)
	checkNoAgreement(t, []impl.Span{span(3, 9), span(10, 12), span(13, 14)}, 0, 1)
	checkNoAgreement(t, []impl.Span{span(3, 9), span(9, 12), span(12, 14)}, 0)
	checkNoAgreement(t, []impl.Span{span(0, 0), span(impl.MaxTime, impl.MaxTime)}, 0)
	// Those that are not valid count in the number of spans.
	checkNoAgreement(t, []impl.Span{span(3, 9), span(9, 3)}, 0)
	checkNoAgreement(t, []impl.Span{span(3, 9), span(-1, 9), span(3, impl.MaxTime+1)}, 0, 1)
	for n := range len(badSpans) + 2 {
		checkNoAgreement(t, badSpans, n-1)
	}
}

// checkAsDefined checks the agreement of l for all numbers of liars, also those that are not possible.
func checkAsDefined(t *testing.T, l []impl.Span) {
	t.Helper()
	counts := countsOf(l)
	for liars := -1; liars <= len(l)+1; liars++ {
		want, ok := agreedSlowly(counts, len(l), liars)
		checkAgreedSpan(t, l, liars, want, ok)
	}
}

func TestAgreedSpanAsDefined(t *testing.T) {
	for _, a := range someSpans {
		for _, b := range someSpans {
			checkAsDefined(t, []impl.Span{a, b})
			for _, c := range someSpans {
				checkAsDefined(t, []impl.Span{a, b, c})
			}
		}
	}
	for n := range len(someSpans) + 1 {
		checkAsDefined(t, someSpans[:n])
		checkAsDefined(t, someSpans[n:])
		checkAsDefined(t, slices.Concat(someSpans[n:], badSpans, someSpans))
	}
}

func TestIsSupported(t *testing.T) {
	lists := [][]impl.Span{nil, {}, {span(3, 9)}, {span(9, 3)}, badSpans, someSpans, slices.Concat(someSpans, badSpans), {span(3, 6), span(6, 9), span(9, 12), span(0, 20)}}
	for _, l := range lists {
		counts := countsOf(l)
		for _, liars := range []int{-1, -2, 0, 1, 2, 3, len(l) - 1, len(l), len(l) + 1, math.MinInt, math.MaxInt} {
			possible := liars >= 0 && liars < len(l)
			for time, count := range counts {
				want := possible && count >= len(l)-liars
				if got := impl.IsSupported(l, time, liars); got != want {
					t.Errorf("IsSupported(%v, %d, %d) = %t", l, time, liars, got)
				}
			}
			for _, time := range strangeTimes {
				if impl.IsSupported(l, time, liars) {
					t.Errorf("IsSupported(%v, %d, %d) = true", l, time, liars)
				}
			}
		}
	}
}

// If no more than so many lie, the true time is supported and in the agreed span, and so are the edges of this span.
func TestTrueTimeIsInAgreedSpan(t *testing.T) {
	for _, a := range someSpans {
		for _, b := range someSpans {
			l := []impl.Span{a, b, span(3, 8), span(-1, 5)}
			for liars := range l {
				agreed, ok := impl.AgreedSpan(l, liars)
				if ok && (!impl.IsSpan(agreed) || !impl.IsSupported(l, agreed.From, liars) || !impl.IsSupported(l, agreed.To, liars)) {
					t.Errorf("AgreedSpan(%v, %d) = %v has an edge that is not supported", l, liars, agreed)
				}
				for _, time := range []int{0, 1, 2, 3, 4, 5, 6, 8, 9, impl.MaxTime - 2, impl.MaxTime} {
					lies := 0
					for _, s := range l {
						if !impl.IsInside(span(time, time), s) {
							lies++
						}
					}
					if lies <= liars && (!ok || !impl.IsInside(span(time, time), agreed) || !impl.IsSupported(l, time, liars)) {
						t.Errorf("AgreedSpan(%v, %d) = %v, %t does not have the time %d, although only %d lie", l, liars, agreed, ok, time, lies)
					}
				}
			}
		}
	}
}

func TestManySpansAgree(t *testing.T) {
	l := []impl.Span{}
	for i := range 1000 {
		l = append(l, span(i, impl.MaxTime-2*i))
	}
	slices.Reverse(l[200:700])
	for _, liars := range []int{0, 1, 7, 500, 998, 999} {
		checkAgreedSpan(t, l, liars, span(999-liars, impl.MaxTime-2*(999-liars)), true)
	}
	checkNoAgreement(t, l, -1, 1000)
}

func TestDisagreeingWith(t *testing.T) {
	l := []impl.Span{span(3, 9), span(10, 12), span(9, 3), span(0, 0), span(9, 10), span(-1, 20), span(3, 9)}
	cases := []struct {
		l    []impl.Span
		s    impl.Span
		want []int
	}{
		{nil, span(3, 9), nil}, {[]impl.Span{}, span(3, 9), nil},
		{l, span(3, 9), []int{1, 2, 3, 5}}, {l, span(9, 9), []int{1, 2, 3, 5}}, {l, span(10, 10), []int{0, 2, 3, 5, 6}}, {l, span(0, 2), []int{0, 1, 2, 4, 5, 6}},
		{l, span(0, impl.MaxTime), []int{2, 5}}, {l, span(13, 13), []int{0, 1, 2, 3, 4, 5, 6}}, {l, span(0, 3), []int{1, 2, 4, 5}}, {l, span(12, 20), []int{0, 2, 3, 4, 5, 6}},
		// Nothing agrees with a span that is not valid, not even this span itself.
		{l, span(9, 3), []int{0, 1, 2, 3, 4, 5, 6}}, {l, span(-1, 20), []int{0, 1, 2, 3, 4, 5, 6}}, {l, span(3, impl.MaxTime+1), []int{0, 1, 2, 3, 4, 5, 6}},
	}
	for _, c := range cases {
		if got := impl.DisagreeingWith(c.l, c.s); !slices.Equal(got, c.want) {
			t.Errorf("DisagreeingWith(%v, %v) = %v, want %v", c.l, c.s, got, c.want)
		}
	}
	all := slices.Concat(someSpans, badSpans)
	for _, s := range all {
		want := []int{}
		for i, other := range all {
			if !impl.IsSpan(s) || !impl.IsSpan(other) || other.To < s.From || s.To < other.From {
				want = append(want, i)
			}
		}
		if got := impl.DisagreeingWith(all, s); !slices.Equal(got, want) {
			t.Errorf("DisagreeingWith(%v, %v) = %v, want %v", all, s, got, want)
		}
	}
}

func TestAgreementLeavesArgumentsAlone(t *testing.T) {
	for _, list := range [][]impl.Span{{}, {span(9, 9), span(3, 5), span(6, 7), span(4, 2)}, someSpans, badSpans} {
		l := spareSpans(list)
		checkUnchanged(t, "agreement", l,
			func() { impl.CountAt(l, 5) }, func() { impl.AgreedSpan(l, 0) }, func() { impl.AgreedSpan(l, 3) }, func() { impl.IsSupported(l, 5, 1) })
		for _, s := range []impl.Span{span(3, 9), span(9, 3)} {
			checkApart(t, "DisagreeingWith", l, span(-8, 8), -9, func() []int { return impl.DisagreeingWith(l, s) })
		}
	}
}
