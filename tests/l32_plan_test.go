package tests

import (
	"math"
	"slices"
	"testing"

	"loop.example/g00597/impl"
)

// endSlowly returns Ends of the first method with this Id; 0 if there is none.
func endSlowly(methods []impl.Method, id int) int {
	m, i := methodById(methods, id)
	if i < 0 {
		return 0
	}
	return m.Ends
}

// endsSlowly tells by the definition alone what EndsOf returns.
func endsSlowly(f impl.Frame, r impl.Renewal) int {
	ends := endSlowly(f.Methods, r.Method)
	for _, s := range r.Stamps {
		a, _ := authoritySlowly(f.Authorities, s.Authority)
		k, i := keySlowly(f.Keys, a.Key)
		if i < 0 {
			return 0
		}
		ends = min(ends, endSlowly(f.Methods, k.Method))
	}
	return ends
}

func needsSlowly(f impl.Frame, x impl.Item, margin int) bool {
	n := len(x.Strand.Chain)
	return n == 0 || endsSlowly(f, x.Strand.Chain[n-1])-f.Now <= margin
}

// renewedOnce returns an item whose only renewal is this one.
func renewedOnce(id int, r impl.Renewal) impl.Item {
	x := itemWith(id, 50)
	x.Strand.Chain = []impl.Renewal{r}
	return x
}

func checkEnds(t *testing.T, f impl.Frame, r impl.Renewal, want int) {
	t.Helper()
	if got := impl.EndsOf(f, r); got != want {
		t.Errorf("EndsOf(%v) = %d, want %d", r, got, want)
	}
	if got := endsSlowly(f, r); got != want {
		t.Errorf("by its definition, EndsOf(%v) is %d, not %d", r, got, want)
	}
}

// by returns a renewal by a method with stamps of these authorities.
func by(method int, ids ...int) impl.Renewal {
	return renewalBy(3, method, 7, 20, ids...)
}

func TestEndsOf(t *testing.T) {
	// The methods 1, 2 and 3 end at 40, at 110 and never; the authorities 1 to 4 use 1, 2, 2 and 3, and the key of 5 is not there.
	f := centuryFrame(30, 0)
	checkEnds(t, f, by(1), 40)
	checkEnds(t, f, by(2), 110)
	checkEnds(t, f, by(3), impl.Never)
	checkEnds(t, f, by(9), 0)
	checkEnds(t, f, impl.Renewal{}, 0)
	checkEnds(t, f, by(3, 4), impl.Never)
	checkEnds(t, f, by(3, 4, 4), impl.Never)
	checkEnds(t, f, by(3, 2, 4), 110)
	checkEnds(t, f, by(3, 1, 2, 4), 40)
	checkEnds(t, f, by(3, 4, 2, 1), 40)
	checkEnds(t, f, by(2, 4), 110)
	checkEnds(t, f, by(1, 2, 4), 40)
	checkEnds(t, f, by(9, 4), 0)
	// A key that does not exist, and no authority.
	checkEnds(t, f, by(3, 5), 0)
	checkEnds(t, f, by(3, 4, 5), 0)
	checkEnds(t, f, by(3, 8, 4), 0)
	// A key of a method that does not exist.
	odd := f
	odd.Authorities = []impl.Authority{authority(1, 13, 0), authority(2, 32, 0)}
	checkEnds(t, odd, by(3, 1), 0)
	checkEnds(t, odd, by(3, 2, 1), 0)
	checkEnds(t, odd, by(3, 2), 110)
	// Even if another method ends before all times.
	odd.Methods = append([]impl.Method{method(4, 0, -5, 9)}, f.Methods...)
	checkEnds(t, odd, by(4), -5)
	checkEnds(t, odd, by(4, 2), -5)
	checkEnds(t, odd, by(4, 1), -5)
	checkEnds(t, odd, by(4, 8), 0)
	checkEnds(t, odd, by(9), 0)
	// Of two methods with one Id, the first one counts; when it is broken does not matter.
	odd.Methods = []impl.Method{method(2, 0, 60, 1), method(2, 0, 50, 1), method(3, 0, 70, 1)}
	checkEnds(t, odd, by(2), 60)
	checkEnds(t, odd, by(3, 2), 60)
	checkEnds(t, impl.Frame{}, by(2, 2), 0)
}

func TestNeedsRenewal(t *testing.T) {
	f := centuryFrame(30, 0)
	old, young := renewedOnce(7, by(1, 2)), renewedOnce(7, by(3, 4))
	for margin, want := range map[int]bool{8: false, 9: false, 10: true, 11: true, -1: false, 0: false, math.MaxInt: true, math.MinInt: false} {
		if got := impl.NeedsRenewal(f, old, margin); got != want {
			t.Errorf("NeedsRenewal with the margin %d = %t", margin, got)
		}
		if !impl.NeedsRenewal(f, itemWith(7, 50), margin) {
			t.Errorf("an item without renewals needs none with the margin %d", margin)
		}
	}
	// It is the last renewal that counts.
	last := old
	last.Strand.Chain = []impl.Renewal{by(1, 2), by(3, 4)}
	if impl.NeedsRenewal(f, last, 100) || !impl.NeedsRenewal(f, renewedOnce(7, by(9)), -30) || impl.NeedsRenewal(f, renewedOnce(7, by(9)), -31) {
		t.Error("the last renewal, or one by a method that does not exist")
	}
	slices.Reverse(last.Strand.Chain)
	if !impl.NeedsRenewal(f, last, 10) || impl.NeedsRenewal(f, young, 9970) || !impl.NeedsRenewal(f, young, 9971) {
		t.Error("the last renewal of two, or a method that has no end")
	}
	for _, now := range []int{0, 30, 39, 40, 41, -1, math.MinInt, math.MinInt + 40, math.MinInt + 41, math.MaxInt, math.MaxInt - 1} {
		for _, margin := range []int{0, 1, -1, 10, -10, math.MinInt, math.MinInt + 41, math.MinInt + 42, math.MaxInt, math.MaxInt - 40} {
			for _, x := range []impl.Item{old, young, last, itemWith(7, 50)} {
				if got, want := impl.NeedsRenewal(centuryFrame(now, 0), x, margin), needsSlowly(centuryFrame(now, 0), x, margin); got != want {
					t.Errorf("now %d, with the margin %d: NeedsRenewal(%v) = %t", now, margin, x, got)
				}
			}
		}
	}
	// Differences wrap around: 40 minus the least integer is negative.
	if !impl.NeedsRenewal(centuryFrame(math.MinInt, 0), old, 0) || impl.NeedsRenewal(centuryFrame(math.MinInt+41, 0), old, 0) {
		t.Error("differences beyond the range of int")
	}
}

func TestItemsDueAndNextDue(t *testing.T) {
	f := centuryFrame(30, 0)
	old, middle, young, none := renewedOnce(2, by(1, 2)), renewedOnce(5, by(2, 2)), renewedOnce(9, by(3, 4)), itemWith(11, 50)
	with := func(items ...impl.Item) impl.Archive { return impl.Archive{Id: 3, Items: items} }
	cases := []struct {
		a      impl.Archive
		margin int
		due    []int
		next   int
	}{
		{with(), 10, nil, impl.Never}, {impl.Archive{}, math.MaxInt, nil, impl.Never}, {with(young), 9970, nil, impl.Never}, {with(young), 9971, []int{9}, impl.Never}, {with(young, young), 50, nil, impl.Never},
		{with(old, middle, young), 9, nil, 40}, {with(old, middle, young), 10, []int{2}, 40}, {with(middle, young), 80, []int{5}, 110}, {with(young, middle), 79, nil, 110},
		{with(old, middle, young), 80, []int{2, 5}, 40}, {with(young, old, middle), math.MaxInt, []int{9, 2, 5}, 40}, {with(old, middle, young, none), 9, []int{11}, 0}, {with(none, old), 10, []int{11, 2}, 0}, {with(none), math.MinInt, []int{11}, 0},
		{with(young, renewedOnce(4, by(3, 5))), 0, []int{4}, 0}, {with(young, renewedOnce(4, by(9))), 0, []int{4}, 0}, {with(old, old), 10, []int{2, 2}, 40},
	}
	for _, c := range cases {
		if got := impl.ItemsDue(f, c.a, c.margin); !slices.Equal(got, c.due) {
			t.Errorf("ItemsDue(%v, %d) = %v, want %v", c.a, c.margin, got, c.due)
		}
		if got := impl.NextDue(f, c.a); got != c.next {
			t.Errorf("NextDue(%v) = %d, want %d", c.a, got, c.next)
		}
	}
	// The last renewal counts, and the time does not.
	both := with(young)
	both.Items[0].Strand.Chain = []impl.Renewal{by(1, 2), by(2, 2)}
	if impl.NextDue(f, both) != 110 || impl.NextDue(centuryFrame(500, 0), both) != 110 || impl.NextDue(impl.Frame{}, both) != 0 {
		t.Error("the last renewal of two")
	}
	// An item without renewals counts as 0, even if there is a method with the Id 0.
	f.Methods = []impl.Method{method(0, 0, 60, 90), method(3, 0, 70, 90)}
	if impl.NextDue(f, with(none)) != 0 || impl.NextDue(f, with(renewedOnce(4, by(3)), none)) != 0 || impl.NextDue(f, with(renewedOnce(4, by(0)))) != 60 || impl.IsSafeNow(f, none) || !impl.NeedsRenewal(f, none, 0) {
		t.Error("an item without renewals beside a method with the Id 0")
	}
	// Methods that are not valid can end before and after all times.
	f.Methods = []impl.Method{method(1, 0, -5, 9), method(2, 0, 20000, 9), method(3, 0, math.MinInt, 9)}
	if impl.NextDue(f, with(renewedOnce(4, by(1)))) != -5 || impl.NextDue(f, with(renewedOnce(4, by(2)))) != impl.Never || impl.NextDue(f, with(renewedOnce(4, by(3)), none)) != math.MinInt {
		t.Error("methods that are not valid")
	}
}

// planSlowly tells by the definition alone what PlanAuthorities returns.
func planSlowly(f impl.Frame) []int {
	ids := []int{}
	for _, a := range f.Authorities {
		k, i := keySlowly(f.Keys, a.Key)
		m, j := methodById(f.Methods, k.Method)
		if i >= 0 && j >= 0 && k.Born <= f.Now && m.Known <= f.Now && f.Now < m.Broken && m.Ends > f.Now {
			ids = append(ids, a.Id)
		}
	}
	return ids
}

func checkPlan(t *testing.T, f impl.Frame, want ...int) {
	t.Helper()
	if got := impl.PlanAuthorities(f); !slices.Equal(got, want) {
		t.Errorf("now %d: PlanAuthorities(%v) = %v, want %v", f.Now, f, got, want)
	}
	if got := planSlowly(f); !slices.Equal(got, want) {
		t.Errorf("now %d: by its definition, PlanAuthorities(%v) is %v", f.Now, f, got)
	}
}

func TestPlanAuthorities(t *testing.T) {
	plan := func(now int, want ...int) {
		t.Helper()
		checkPlan(t, centuryFrame(now, 0), want...)
	}
	plan(-1)
	plan(0, 1)
	plan(9, 1)
	plan(10, 1, 2, 3)
	plan(39, 1, 2, 3)
	plan(40, 2, 3)
	plan(89, 2, 3)
	plan(90, 2, 3, 4)
	plan(109, 2, 3, 4)
	plan(110, 4)
	plan(10000, 4)
	plan(10001)
	plan(math.MaxInt)
	plan(math.MinInt)
	// Each reason alone: the key is born, the method is known, is not broken, and has not ended.
	at := func(now int, k impl.Key, m impl.Method) impl.Frame {
		return impl.Frame{Keys: []impl.Key{k}, Authorities: []impl.Authority{authority(6, k.Number, 1)}, Methods: []impl.Method{m}, Now: now}
	}
	for now, isThere := range map[int]bool{19: false, 20: true, 21: true} {
		for _, f := range []impl.Frame{at(now, key(31, 81, 1, 20, 5), method(1, 0, 90, 90)), at(now, key(31, 81, 1, 0, 5), method(1, 20, 90, 90))} {
			if isThere {
				checkPlan(t, f, 6)
			} else {
				checkPlan(t, f)
			}
		}
	}
	for now, isThere := range map[int]bool{59: true, 60: false, 61: false} {
		for _, f := range []impl.Frame{at(now, key(31, 81, 1, 0, 5), method(1, 0, 60, 90)), at(now, key(31, 81, 1, 0, 5), method(1, 0, 90, 60))} {
			if isThere {
				checkPlan(t, f, 6)
			} else {
				checkPlan(t, f)
			}
		}
	}
	checkPlan(t, at(20, key(31, 81, 2, 0, 5), method(1, 0, 90, 90)))
	checkPlan(t, impl.Frame{Authorities: centuryAuthorities, Methods: centuryMethods, Now: 20})
	checkPlan(t, impl.Frame{})
	// In the order of the list, and the first of what occurs twice.
	f := centuryFrame(20, 0)
	f.Authorities = []impl.Authority{authority(9, 33, 0), authority(2, 97, 0), authority(1, 31, 0), authority(9, 32, 0)}
	checkPlan(t, f, 9, 1, 9)
	f.Keys = append([]impl.Key{key(33, 83, 3, 90, 5)}, f.Keys...)
	checkPlan(t, f, 1, 9)
}

func TestIsSafeNow(t *testing.T) {
	for now := range 130 {
		f := centuryFrame(now, 0)
		for _, c := range []struct {
			x    impl.Item
			want bool
		}{
			{itemWith(7, 50), false}, {renewedOnce(7, by(1, 2)), now < 50}, {renewedOnce(7, by(2, 1)), now < 50}, {renewedOnce(7, by(2, 2, 3)), now < 120}, {renewedOnce(7, by(3, 4)), true}, {renewedOnce(7, by(3, 5)), false}, {renewedOnce(7, by(9)), false},
		} {
			if got := impl.IsSafeNow(f, c.x); got != c.want {
				t.Errorf("now %d: IsSafeNow(%v) = %t", now, c.x, got)
			}
		}
		// The last one counts.
		both := renewedOnce(7, by(1, 2))
		both.Strand.Chain = append(both.Strand.Chain, by(2, 2))
		if impl.IsSafeNow(f, both) != (now < 120) {
			t.Errorf("now %d: the last of two renewals", now)
		}
		slices.Reverse(both.Strand.Chain)
		if impl.IsSafeNow(f, both) != (now < 50) {
			t.Errorf("now %d: the last of two renewals, the other way round", now)
		}
	}
	if !impl.IsSafeNow(centuryFrame(-1, 0), renewedOnce(7, by(9))) || impl.IsSafeNow(centuryFrame(math.MaxInt, 0), renewedOnce(7, by(3))) {
		t.Error("at times that there are not")
	}
}

func TestPlansLeaveArgumentsAlone(t *testing.T) {
	for _, a := range append(someArchives(), impl.Archive{Items: []impl.Item{renewedOnce(2, by(1, 2)), itemWith(3, 50)}}) {
		x := archiveArgs{Frame: centuryFrame(30, 0), Archive: a, Item: renewedOnce(2, by(1, 2, 5))}
		checkMemory(t, "ItemsDue", x, func(x archiveArgs) []int { return impl.ItemsDue(x.Frame, x.Archive, 10) })
		checkMemory(t, "PlanAuthorities", x, func(x archiveArgs) []int { return impl.PlanAuthorities(x.Frame) })
		checkMemory(t, "plans", x, func(x archiveArgs) bool {
			return impl.NeedsRenewal(x.Frame, x.Item, 3) || impl.IsSafeNow(x.Frame, x.Item) || impl.NextDue(x.Frame, x.Archive) == impl.EndsOf(x.Frame, x.Item.Strand.Chain[0])
		})
	}
}
