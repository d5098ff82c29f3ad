package tests

import (
	"math"
	"slices"
	"testing"

	"loop.example/g00597/impl"
)

func span(from int, to int) impl.Span {
	return impl.Span{From: from, To: to}
}

var badSpans = []impl.Span{
	{From: -1, To: 3}, {From: -1, To: -1}, {From: -5, To: -2}, {From: -1, To: impl.MaxTime},
	{From: 4, To: 3}, {From: 1, To: 0}, {From: 0, To: -1}, {From: impl.MaxTime, To: 0},
	{From: 4, To: impl.MaxTime + 1}, {From: impl.MaxTime, To: impl.MaxTime + 1},
	{From: impl.MaxTime + 1, To: impl.MaxTime + 1}, {From: impl.MaxTime + 1, To: impl.MaxTime},
	{From: -1, To: impl.MaxTime + 1},
	{From: math.MinInt, To: math.MaxInt}, {From: math.MaxInt, To: math.MinInt},
	{From: math.MinInt, To: 5}, {From: 5, To: math.MaxInt}, {From: 0, To: math.MinInt}, {From: math.MaxInt, To: math.MaxInt},
}

// someSpans overlap, touch, leave one time or more between them, are inside one another, have one time, and lie at both ends of time.
var someSpans = []impl.Span{
	{From: 0, To: 0}, {From: 0, To: 2}, {From: 1, To: 1}, {From: 2, To: 4}, {From: 3, To: 3}, {From: 3, To: 6},
	{From: 5, To: 9}, {From: 6, To: 6}, {From: 8, To: 8}, {From: 9, To: impl.MaxTime - 1},
	{From: impl.MaxTime - 3, To: impl.MaxTime - 2}, {From: impl.MaxTime, To: impl.MaxTime}, {From: 0, To: impl.MaxTime},
	{From: 5, To: 4}, {From: -1, To: 3}, {From: 7, To: impl.MaxTime + 1},
}

// timeSet tells of each time whether it is in the set.
type timeSet []bool

// timesOf returns the times of the valid spans of list, by the definition alone.
func timesOf(list []impl.Span) timeSet {
	set := make(timeSet, impl.MaxTime+1)
	for _, s := range list {
		if s.From < 0 || s.To > impl.MaxTime {
			continue
		}
		for t := s.From; t <= s.To; t++ {
			set[t] = true
		}
	}
	return set
}

// meet returns the times that are in both sets.
func (a timeSet) meet(b timeSet) timeSet {
	both := make(timeSet, len(a))
	for t := range a {
		both[t] = a[t] && b[t]
	}
	return both
}

// spans returns the longest spans of times that are in the set.
func (a timeSet) spans() []impl.Span {
	list := []impl.Span{}
	for t := range a {
		if a[t] && (t == 0 || !a[t-1]) {
			list = append(list, span(t, t))
		}
		if a[t] {
			list[len(list)-1].To = t
		}
	}
	return list
}

// holds reports whether s is valid and all of its times are in the set.
func (a timeSet) holds(s impl.Span) bool {
	return impl.IsSpan(s) && !slices.Contains(a[s.From:s.To+1], false)
}

// touches reports whether s is valid and one of its times is in the set.
func (a timeSet) touches(s impl.Span) bool {
	return impl.IsSpan(s) && slices.Contains(a[s.From:s.To+1], true)
}

func TestMaxTime(t *testing.T) {
	if impl.MaxTime != 10000 {
		t.Errorf("MaxTime = %d", impl.MaxTime)
	}
}

func TestIsSpan(t *testing.T) {
	good := []impl.Span{
		{}, span(0, 1), span(3, 3), span(3, 4), span(0, impl.MaxTime), span(impl.MaxTime, impl.MaxTime),
		span(impl.MaxTime-1, impl.MaxTime), span(5000, 5001),
	}
	for _, s := range good {
		if !impl.IsSpan(s) {
			t.Errorf("IsSpan(%v) = false", s)
		}
	}
	for _, s := range badSpans {
		if impl.IsSpan(s) {
			t.Errorf("IsSpan(%v) = true", s)
		}
	}
}

func TestMakeSpan(t *testing.T) {
	const top = impl.MaxTime
	cases := []struct {
		from, to int
		want     impl.Span
		ok       bool
	}{
		{0, 0, span(0, 0), true},
		{3, 9, span(3, 9), true},
		{7, 7, span(7, 7), true},
		{0, top, span(0, top), true},
		{top, top, span(top, top), true},
		{-5, 2 * top, span(0, top), true},
		{-1, 0, span(0, 0), true},
		{-7, 4, span(0, 4), true},
		{4, top + 1, span(4, top), true},
		{top, top + 1, span(top, top), true},
		{top, math.MaxInt, span(top, top), true},
		{math.MinInt, 0, span(0, 0), true},
		{math.MinInt, math.MaxInt, span(0, top), true},
		{5, 4, span(0, 0), false},
		{1, 0, span(0, 0), false},
		{0, -1, span(0, 0), false},
		{-1, -1, span(0, 0), false},
		{-5, -1, span(0, 0), false},
		{-1, -5, span(0, 0), false},
		{top + 1, top + 1, span(0, 0), false},
		{top + 1, 2 * top, span(0, 0), false},
		{top + 1, top, span(0, 0), false},
		{top + 1, -1, span(0, 0), false},
		{math.MaxInt, math.MinInt, span(0, 0), false},
		{math.MinInt, math.MinInt, span(0, 0), false},
		{math.MaxInt, math.MaxInt, span(0, 0), false},
		{math.MinInt, -1, span(0, 0), false},
		{top + 1, math.MaxInt, span(0, 0), false},
	}
	for _, c := range cases {
		if got, ok := impl.MakeSpan(c.from, c.to); got != c.want || ok != c.ok {
			t.Errorf("MakeSpan(%d, %d) = %v, %t, want %v, %t", c.from, c.to, got, ok, c.want, c.ok)
		}
	}
}

func TestMeetSpans(t *testing.T) {
	cases := []struct {
		a, b, want impl.Span
		ok         bool
	}{
		{span(3, 9), span(7, 20), span(7, 9), true},
		{span(3, 9), span(3, 9), span(3, 9), true},
		{span(3, 9), span(4, 5), span(4, 5), true},
		{span(3, 9), span(9, 12), span(9, 9), true},
		{span(3, 9), span(0, 3), span(3, 3), true},
		{span(0, impl.MaxTime), span(0, 0), span(0, 0), true},
		{span(0, impl.MaxTime), span(impl.MaxTime, impl.MaxTime), span(impl.MaxTime, impl.MaxTime), true},
		{span(3, 9), span(10, 20), span(0, 0), false},
		{span(3, 9), span(11, 20), span(0, 0), false},
		{span(0, 0), span(1, 1), span(0, 0), false},
	}
	for _, c := range cases {
		for _, pair := range [][2]impl.Span{{c.a, c.b}, {c.b, c.a}} {
			if got, ok := impl.MeetSpans(pair[0], pair[1]); got != c.want || ok != c.ok {
				t.Errorf("MeetSpans(%v, %v) = %v, %t, want %v, %t", pair[0], pair[1], got, ok, c.want, c.ok)
			}
		}
	}
}

// A span that is not valid meets nothing, has nothing inside and is inside nothing, although some of its times would be in common.
func TestPairsWithBadSpans(t *testing.T) {
	for _, bad := range badSpans {
		for _, s := range slices.Concat(someSpans, badSpans) {
			for _, pair := range [][2]impl.Span{{bad, s}, {s, bad}} {
				if got, ok := impl.MeetSpans(pair[0], pair[1]); ok || got != span(0, 0) {
					t.Errorf("MeetSpans(%v, %v) = %v, %t", pair[0], pair[1], got, ok)
				}
				if impl.IsInside(pair[0], pair[1]) {
					t.Errorf("IsInside(%v, %v) = true", pair[0], pair[1])
				}
			}
		}
	}
}

func TestPairsAsDefined(t *testing.T) {
	for _, a := range someSpans {
		for _, b := range someSpans {
			times := timesOf([]impl.Span{b})
			want, wantOk := impl.Span{}, false
			if times.touches(a) {
				want, wantOk = times.meet(timesOf([]impl.Span{a})).spans()[0], true
			}
			if got, ok := impl.MeetSpans(a, b); got != want || ok != wantOk {
				t.Errorf("MeetSpans(%v, %v) = %v, %t, want %v, %t", a, b, got, ok, want, wantOk)
			}
			if got := impl.IsInside(a, b); got != times.holds(a) {
				t.Errorf("IsInside(%v, %v) = %t", a, b, got)
			}
		}
	}
}

func TestIsInside(t *testing.T) {
	cases := []struct {
		a, b impl.Span
		want bool
	}{
		{span(3, 4), span(3, 9), true},
		{span(3, 9), span(3, 9), true},
		{span(5, 9), span(3, 9), true},
		{span(4, 4), span(3, 9), true},
		{span(0, impl.MaxTime), span(0, impl.MaxTime), true},
		{span(2, 4), span(3, 9), false},
		{span(3, 10), span(3, 9), false},
		{span(2, 10), span(3, 9), false},
		{span(10, 12), span(3, 9), false},
		{span(0, 2), span(3, 9), false},
		{span(3, 9), span(3, 4), false},
	}
	for _, c := range cases {
		if got := impl.IsInside(c.a, c.b); got != c.want {
			t.Errorf("IsInside(%v, %v) = %t", c.a, c.b, got)
		}
	}
}

func checkJoinAll(t *testing.T, list []impl.Span, want []impl.Span) {
	t.Helper()
	if got := impl.JoinAll(list); !slices.Equal(got, want) {
		t.Errorf("JoinAll(%v) = %v, want %v", list, got, want)
	}
}

func TestJoinAll(t *testing.T) {
	const top = impl.MaxTime
	cases := []struct{ list, want []impl.Span }{
		{nil, nil},
		{[]impl.Span{}, nil},
		{badSpans, nil},
		{[]impl.Span{span(0, 0)}, []impl.Span{span(0, 0)}},
		{[]impl.Span{span(top, top)}, []impl.Span{span(top, top)}},
		{[]impl.Span{span(3, 5), span(3, 5)}, []impl.Span{span(3, 5)}},
		// They overlap, touch, or leave exactly one time between them.
		{[]impl.Span{span(3, 5), span(5, 8)}, []impl.Span{span(3, 8)}},
		{[]impl.Span{span(3, 5), span(6, 8)}, []impl.Span{span(3, 8)}},
		{[]impl.Span{span(3, 5), span(7, 8)}, []impl.Span{span(3, 5), span(7, 8)}},
		{[]impl.Span{span(7, 8), span(3, 5)}, []impl.Span{span(3, 5), span(7, 8)}},
		{[]impl.Span{span(6, 8), span(3, 5)}, []impl.Span{span(3, 8)}},
		// What is between them joins them.
		{[]impl.Span{span(3, 5), span(7, 8), span(6, 6)}, []impl.Span{span(3, 8)}},
		{[]impl.Span{span(0, 0), span(2, 2), span(1, 1)}, []impl.Span{span(0, 2)}},
		{[]impl.Span{span(0, 0), span(2, 2), span(4, 4)}, []impl.Span{span(0, 0), span(2, 2), span(4, 4)}},
		// A shorter one inside does not end a longer one.
		{[]impl.Span{span(3, 9), span(4, 5), span(10, 11)}, []impl.Span{span(3, 11)}},
		{[]impl.Span{span(4, 5), span(3, 9), span(3, 3)}, []impl.Span{span(3, 9)}},
		{[]impl.Span{span(3, 9), span(3, 4), span(9, 9), span(11, 12)}, []impl.Span{span(3, 9), span(11, 12)}},
		{[]impl.Span{span(0, top), span(0, 0), span(top, top), span(5, 6)}, []impl.Span{span(0, top)}},
		{[]impl.Span{span(top, top), span(0, top-2)}, []impl.Span{span(0, top-2), span(top, top)}},
		{[]impl.Span{span(top, top), span(0, top-1)}, []impl.Span{span(0, top)}},
		// Some of them are not valid.
		{[]impl.Span{span(5, 8), span(20, 21), span(9, 12), span(7, 6), span(11, 15), span(2, 2)}, []impl.Span{span(2, 2), span(5, 15), span(20, 21)}},
		{[]impl.Span{span(-1, 4), span(5, 5), span(6, top+1), span(9, 7)}, []impl.Span{span(5, 5)}},
	}
	for _, c := range cases {
		checkJoinAll(t, c.list, c.want)
		turned := slices.Clone(c.list)
		slices.Reverse(turned)
		checkJoinAll(t, turned, c.want)
		checkJoinAll(t, c.want, c.want)
	}
}

func TestJoinAllAsDefined(t *testing.T) {
	for _, a := range someSpans {
		for _, b := range someSpans {
			for _, c := range someSpans {
				list := []impl.Span{a, b, c}
				checkJoinAll(t, list, timesOf(list).spans())
			}
		}
	}
}

func TestManySpans(t *testing.T) {
	jumping, even := []impl.Span{}, []impl.Span{}
	for time := 0; time <= impl.MaxTime; time += 2 {
		even = append(even, span(time, time))
		// Steps of ten that go round reach every even time once.
		jump := time * 5 % (impl.MaxTime + 2)
		jumping = append(jumping, span(jump, jump))
	}
	if got := impl.JoinAll(jumping); !slices.Equal(got, even) {
		t.Errorf("JoinAll of %d spans apart has %d spans", len(jumping), len(got))
	}
	if got := impl.MeetAll(jumping, even); !slices.Equal(got, even) {
		t.Errorf("MeetAll of %d spans apart has %d spans", len(jumping), len(got))
	}
	all := append(jumping, span(1, impl.MaxTime))
	if got := impl.JoinAll(all); !slices.Equal(got, []impl.Span{span(0, impl.MaxTime)}) {
		t.Errorf("JoinAll of many spans that are all times has %d spans", len(got))
	}
}

func checkMeetAll(t *testing.T, a []impl.Span, b []impl.Span, want []impl.Span) {
	t.Helper()
	if got := impl.MeetAll(a, b); !slices.Equal(got, want) {
		t.Errorf("MeetAll(%v, %v) = %v, want %v", a, b, got, want)
	}
	if got := impl.MeetAll(b, a); !slices.Equal(got, want) {
		t.Errorf("MeetAll(%v, %v) = %v, want %v", b, a, got, want)
	}
}

func TestMeetAll(t *testing.T) {
	all := []impl.Span{span(2, 2), span(5, 15), span(20, 21)}
	checkMeetAll(t, nil, nil, nil)
	checkMeetAll(t, all, nil, nil)
	checkMeetAll(t, all, badSpans, nil)
	checkMeetAll(t, all, all, all)
	checkMeetAll(t, all, []impl.Span{span(0, 5), span(14, 20)}, []impl.Span{span(2, 2), span(5, 5), span(14, 15), span(20, 20)})
	checkMeetAll(t, all, []impl.Span{span(0, impl.MaxTime)}, all)
	checkMeetAll(t, all, []impl.Span{span(16, 19), span(0, 1), span(3, 4), span(22, 30)}, nil)
	// Parts that touch are joined, in whichever list they are apart.
	checkMeetAll(t, []impl.Span{span(3, 9)}, []impl.Span{span(7, 12), span(0, 6)}, []impl.Span{span(3, 9)})
	checkMeetAll(t, []impl.Span{span(3, 9)}, []impl.Span{span(8, 12), span(0, 6)}, []impl.Span{span(3, 6), span(8, 9)})
	checkMeetAll(t, []impl.Span{span(1, 4), span(5, 8)}, []impl.Span{span(3, 6)}, []impl.Span{span(3, 6)})
	checkMeetAll(t, []impl.Span{span(1, 4), span(3, 8)}, []impl.Span{span(2, 6), span(4, 9)}, []impl.Span{span(2, 8)})
	checkMeetAll(t, []impl.Span{span(9, 9), span(6, 4), span(1, 3)}, []impl.Span{span(3, 9), span(-1, 2)}, []impl.Span{span(3, 3), span(9, 9)})
}

func TestListsAsDefined(t *testing.T) {
	for _, a := range someSpans {
		for _, b := range someSpans {
			two := timesOf([]impl.Span{a, b})
			for i, c := range someSpans {
				if got := impl.CoversSpan([]impl.Span{a, b}, c); got != two.holds(c) {
					t.Errorf("CoversSpan([%v %v], %v) = %t", a, b, c, got)
				}
				if got := impl.TouchesSpan([]impl.Span{a, b}, c); got != two.touches(c) {
					t.Errorf("TouchesSpan([%v %v], %v) = %t", a, b, c, got)
				}
				d := someSpans[(i+5)%len(someSpans)]
				want := two.meet(timesOf([]impl.Span{c, d})).spans()
				checkMeetAll(t, []impl.Span{a, b}, []impl.Span{c, d}, want)
			}
		}
	}
}

func TestCoversSpan(t *testing.T) {
	touching := []impl.Span{span(4, 9), span(1, 3)}
	cases := []struct {
		list []impl.Span
		s    impl.Span
		want bool
	}{
		{touching, span(2, 8), true},
		{touching, span(1, 9), true},
		{touching, span(3, 4), true},
		{touching, span(9, 9), true},
		{touching, span(0, 1), false},
		{touching, span(9, 10), false},
		{touching, span(8, 2), false},
		{[]impl.Span{span(1, 3), span(5, 9)}, span(2, 8), false},
		{[]impl.Span{span(1, 3), span(5, 9)}, span(4, 4), false},
		{[]impl.Span{span(1, 3), span(5, 9), span(4, 4)}, span(2, 8), true},
		{[]impl.Span{span(1, 3), span(5, 9), span(5, 4)}, span(2, 8), false},
		{nil, span(0, 0), false},
		{nil, span(1, 0), false},
		{badSpans, span(0, 0), false},
		{[]impl.Span{span(0, impl.MaxTime)}, span(0, impl.MaxTime), true},
		{[]impl.Span{span(0, impl.MaxTime)}, span(0, impl.MaxTime+1), false},
		{[]impl.Span{span(0, impl.MaxTime)}, span(-1, 5), false},
	}
	for _, c := range cases {
		if got := impl.CoversSpan(c.list, c.s); got != c.want {
			t.Errorf("CoversSpan(%v, %v) = %t", c.list, c.s, got)
		}
	}
	for _, bad := range badSpans {
		if impl.CoversSpan([]impl.Span{span(0, impl.MaxTime), bad}, bad) {
			t.Errorf("CoversSpan of %v, which is not valid, is true", bad)
		}
	}
}

func TestTouchesSpan(t *testing.T) {
	list := []impl.Span{span(20, 21), span(2, 2), span(15, 5), span(5, 15)}
	cases := []struct {
		list []impl.Span
		s    impl.Span
		want bool
	}{
		{list, span(15, 19), true},
		{list, span(16, 20), true},
		{list, span(0, 2), true},
		{list, span(7, 8), true},
		{list, span(0, impl.MaxTime), true},
		{list, span(16, 19), false},
		{list, span(3, 4), false},
		{list, span(0, 1), false},
		{list, span(22, impl.MaxTime), false},
		{list, span(8, 7), false},
		{nil, span(0, 0), false},
		{[]impl.Span{span(0, 0)}, span(0, 0), true},
		{badSpans, span(0, impl.MaxTime), false},
	}
	for _, c := range cases {
		if got := impl.TouchesSpan(c.list, c.s); got != c.want {
			t.Errorf("TouchesSpan(%v, %v) = %t", c.list, c.s, got)
		}
	}
	for _, bad := range badSpans {
		if impl.TouchesSpan([]impl.Span{span(0, impl.MaxTime), bad}, bad) {
			t.Errorf("TouchesSpan of %v, which is not valid, is true", bad)
		}
	}
}

func TestSpansLeaveArgumentsAlone(t *testing.T) {
	lists := [][]impl.Span{{}, {span(3, 5)}, {span(9, 9), span(3, 5), span(6, 7), span(4, 2)}, someSpans, badSpans}
	argument, result := span(-8, 8), span(-9, 9)
	for _, list := range lists {
		a, b := spareSpans(list), spareSpans(someSpans)
		checkApart(t, "JoinAll", a, argument, result, func() []impl.Span { return impl.JoinAll(a) })
		for _, call := range []func() []impl.Span{
			func() []impl.Span { return impl.MeetAll(a, b) },
			func() []impl.Span { return impl.MeetAll(b, a) },
			func() []impl.Span { return impl.MeetAll(a, a) },
		} {
			checkApart(t, "MeetAll", a, argument, result, call)
			checkApart(t, "MeetAll", b, argument, result, call)
		}
		whole := slices.Clone(a[:cap(a)])
		impl.CoversSpan(a, span(3, 6))
		impl.TouchesSpan(a, span(3, 6))
		if !slices.Equal(whole, a[:cap(a)]) {
			t.Error("CoversSpan or TouchesSpan writes into its argument")
		}
	}
}
