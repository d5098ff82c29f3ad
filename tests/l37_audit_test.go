package tests

import (
	"math"
	"slices"
	"testing"

	"loop.example/g00597/impl"
)

// verdictSlowly tells by the definition alone what ItemVerdict returns.
func verdictSlowly(w impl.World, id int) impl.Verdict {
	i, k := whereSlowly(w, id)
	if i < 0 {
		return impl.Verdict{}
	}
	return judgedItemSlowly(w.Frame, w.Archives[i].Items[k])
}

// verdictsSlowly returns the Ids of all items in order, and the verdict of each Id.
func verdictsSlowly(w impl.World) ([]int, map[int]impl.Verdict) {
	ids, verdicts := []int{}, map[int]impl.Verdict{}
	for _, a := range w.Archives {
		for _, x := range a.Items {
			if _, ok := verdicts[x.Id]; !ok {
				verdicts[x.Id] = verdictSlowly(w, x.Id)
			}
			ids = append(ids, x.Id)
		}
	}
	return ids, verdicts
}

// isUnbrokenSlowly tells by the definition alone what IsUnbrokenItem returns.
func isUnbrokenSlowly(w impl.World, id int) bool {
	i, k := whereSlowly(w, id)
	if i < 0 {
		return false
	}
	x := w.Archives[i].Items[k]
	return len(x.Strand.Chain) > 0 && isKeptSlowly(w.Frame, x.Strand, anyDocsSlowly(x.Strand, x.Doc), 0)
}

// stampsInSlowly tells by the definition alone what AllStamps returns.
func stampsInSlowly(w impl.World) []impl.Stamp {
	stamps := []impl.Stamp{}
	for _, a := range w.Archives {
		for _, x := range a.Items {
			for _, r := range x.Strand.Chain {
				for _, s := range r.Stamps {
					if !slices.Contains(stamps, s) {
						stamps = append(stamps, s)
					}
				}
			}
		}
	}
	return stamps
}

// checkAudit checks all that is told of a world.
func checkAudit(t *testing.T, w impl.World) {
	t.Helper()
	ids, verdicts := verdictsSlowly(w)
	with := func(code int) []int {
		return slices.DeleteFunc(slices.Clone(ids), func(id int) bool { return verdicts[id].Code != code })
	}
	for _, id := range append(upTo(20), 0, -1, math.MinInt, math.MaxInt) {
		if got, want := impl.ItemVerdict(w, id), verdicts[id]; got != want {
			t.Errorf("ItemVerdict(%v, %d) = %v, want %v", w, id, got, want)
		}
		if got, want := impl.IsUnbrokenItem(w, id), isUnbrokenSlowly(w, id); got != want {
			t.Errorf("IsUnbrokenItem(%v, %d) = %t", w, id, got)
		}
	}
	if got := impl.ValidItems(w); !slices.Equal(got, with(1)) {
		t.Errorf("ValidItems(%v) = %v, want %v", w, got, with(1))
	}
	forged := slices.DeleteFunc(with(1), func(id int) bool { return !slices.Contains(w.Forged, id) })
	if got := impl.ForgedValid(w); !slices.Equal(got, forged) {
		t.Errorf("ForgedValid(%v) = %v, want %v", w, got, forged)
	}
	for _, code := range []int{0, 1, 2, 3, 4, -1, math.MinInt, math.MaxInt} {
		if got, want := impl.CountVerdicts(w, code), len(with(code)); got != want {
			t.Errorf("CountVerdicts(%v, %d) = %d, want %d", w, code, got, want)
		}
	}
	if got, want := impl.AllStamps(w), stampsInSlowly(w); !slices.Equal(got, want) {
		t.Errorf("AllStamps(%v) = %v, want %v", w, got, want)
	}
	want := ""
	if !isWorldSlowly(w) {
		want = "world"
	} else if len(forged) > 0 {
		want = "forged"
	}
	if got := impl.FaultOf(w); got != want {
		t.Errorf("FaultOf(%v) = %q, want %q", w, got, want)
	}
}

// judgedWorld is a world at 26 in which the items 1 and 4 are valid, 2 is open and 3 is not valid; 4 and 3 are in the second archive.
func judgedWorld() impl.World {
	w := worldAt(22, 0)
	for _, e := range []impl.Event{
		signing(0, 11, pages(1), 0, 9000), signing(0, 12, pages(2), 0, 9000), signing(1, 11, pages(3), 0, 9000), signing(0, 11, pages(4), 0, 9000), event(impl.EvTick, 3),
		event(impl.EvMove, 0, 1, 4), renewing(0, 0, 1, 2), renewing(1, 0, 1, 2), event(impl.EvTick, 1), event(impl.EvAnswer, 1), event(impl.EvAnswer, 4),
	} {
		next, ok := happenSlowly(w, e)
		if !ok {
			panic(e)
		}
		w = next
	}
	// The third one is by a key whose certificate ended before.
	w.Archives[1].Items[0].Sig.Mark++
	w.Archives[1].Items[0].Strand.Pieces[0].Mark++
	return w
}

func TestAudit(t *testing.T) {
	w := judgedWorld()
	checkAudit(t, w)
	for id, want := range map[int]string{1: "valid none 0-26", 2: "open time 20-26", 3: "invalid mark", 4: "valid none 0-26", 5: "", 0: "", -1: ""} {
		if got := impl.FormatVerdict(impl.ItemVerdict(w, id)); got != want {
			t.Errorf("the verdict of %d is %q, want %q", id, got, want)
		}
	}
	if got := impl.ValidItems(w); !slices.Equal(got, []int{1, 4}) {
		t.Errorf("ValidItems = %v", got)
	}
	if impl.CountVerdicts(w, impl.VdValid) != 2 || impl.CountVerdicts(w, impl.VdInvalid) != 1 || impl.CountVerdicts(w, impl.VdOpen) != 1 || impl.CountVerdicts(w, 0) != 0 || impl.CountVerdicts(w, 4) != 0 {
		t.Error("the numbers of verdicts")
	}
	if impl.FaultOf(w) != "" || impl.FaultOf(impl.World{}) != "world" || impl.FaultOf(impl.NewWorld(1)) != "" {
		t.Error("faults of worlds that are valid, and of one that is not")
	}
	for _, empty := range []impl.World{{}, impl.NewWorld(0), impl.NewWorld(1), {Archives: []impl.Archive{{}, {}}, Forged: []int{1}, Next: 3}} {
		checkAudit(t, empty)
		if len(impl.ValidItems(empty))+len(impl.ForgedValid(empty))+len(impl.AllStamps(empty))+impl.CountVerdicts(empty, 3) != 0 {
			t.Errorf("there is something in %v", empty)
		}
	}
	checkAudit(t, busyWorld())
	// The order is that of the archives and then of the items, whatever their Ids are.
	slices.Reverse(w.Archives)
	checkAudit(t, w)
	slices.Reverse(w.Archives[1].Items)
	if got := impl.ValidItems(w); !slices.Equal(got, []int{4, 1}) {
		t.Errorf("ValidItems in another order = %v", got)
	}
	// Of two items with one Id, the verdict is that of the first one.
	w = judgedWorld()
	w.Archives[0].Items[1].Id = 1
	checkAudit(t, w)
	if got := impl.ValidItems(w); !slices.Equal(got, []int{1, 1, 4}) {
		t.Errorf("ValidItems with an Id that occurs twice = %v", got)
	}
}

func TestForgedValid(t *testing.T) {
	for _, c := range []struct {
		forged []int
		want   []int
		fault  string
	}{
		{nil, nil, ""}, {[]int{1}, []int{1}, "forged"}, {[]int{4}, []int{4}, "forged"}, {[]int{1, 4}, []int{1, 4}, "forged"}, {[]int{1, 2, 3, 4}, []int{1, 4}, "forged"},
		// Open, not valid, forgotten, and not there yet.
		{[]int{2}, nil, ""}, {[]int{3}, nil, ""}, {[]int{2, 3}, nil, ""}, {[]int{-5, 0, 5, 900}, nil, ""}, {[]int{0, 1, 900}, []int{1}, "forged"},
		// A world that is not valid is told of first.
		{[]int{4, 1}, []int{1, 4}, "world"}, {[]int{3, 2}, nil, "world"}, {[]int{1, 1}, []int{1}, "world"},
	} {
		w := withWorld(judgedWorld(), func(w *impl.World) { w.Forged = c.forged })
		checkAudit(t, w)
		if got := impl.ForgedValid(w); !slices.Equal(got, c.want) {
			t.Errorf("with %v forged, ForgedValid = %v, want %v", c.forged, got, c.want)
		}
		if got := impl.FaultOf(w); got != c.fault {
			t.Errorf("with %v forged, FaultOf = %q, want %q", c.forged, got, c.fault)
		}
	}
	// What was valid and forged is forgotten.
	w := withWorld(judgedWorld(), func(w *impl.World) { w.Forged, w.Archives[0].Items[0].Keep = []int{1}, 5 })
	forgotten, ok := impl.StepForget(w, 0)
	if !ok || impl.FaultOf(w) != "forged" || impl.FaultOf(forgotten) != "" || len(impl.ForgedValid(forgotten)) != 0 {
		t.Errorf("what was forgotten is %v", impl.ForgedValid(forgotten))
	}
	for i, c := range worldChanges {
		w := busyWorld()
		c.change(&w)
		if got := impl.FaultOf(w); (got == "world") == c.isValid {
			t.Errorf("change %d: FaultOf(%v) = %q", i, w, got)
		}
	}
}

func TestIsUnbrokenItem(t *testing.T) {
	w := judgedWorld()
	// Both renewals are by the authorities 1 and 2, whose methods are broken at 50 and 70.
	for _, now := range []int{26, 49, 50, 51, 70} {
		later := withWorld(w, func(w *impl.World) { w.Frame.Now = now })
		checkAudit(t, later)
		for id := range 6 {
			if got := impl.IsUnbrokenItem(later, id); got != (id >= 1 && id <= 4 && id != 3 && now < 50) {
				t.Errorf("at %d, IsUnbrokenItem(%d) = %t", now, id, got)
			}
		}
	}
	// Without renewals, with another document, or with another renewal.
	for _, change := range []func(x *impl.Item){
		func(x *impl.Item) { x.Strand.Chain = nil }, func(x *impl.Item) { x.Doc.Parts[0] += "!" }, func(x *impl.Item) { x.Doc = impl.Document{} }, func(x *impl.Item) { x.Strand.Chain[0].Root++ }, func(x *impl.Item) { x.Strand.Chain[0].Stamps[1].Time++ },
	} {
		odd := withWorld(w, func(w *impl.World) { change(&w.Archives[0].Items[0]) })
		checkAudit(t, odd)
		if impl.IsUnbrokenItem(odd, 1) || !impl.IsUnbrokenItem(odd, 2) {
			t.Errorf("IsUnbrokenItem of %v", odd.Archives[0].Items[0])
		}
	}
}

func TestAllStamps(t *testing.T) {
	w := judgedWorld()
	first, second := w.Archives[0].Items[0].Strand.Chain[0].Stamps, w.Archives[1].Items[0].Strand.Chain[0].Stamps
	if got := impl.AllStamps(w); !slices.Equal(got, slices.Concat(first, second)) || len(got) != 4 {
		t.Errorf("AllStamps = %v", got)
	}
	slices.Reverse(w.Archives)
	if got := impl.AllStamps(w); !slices.Equal(got, slices.Concat(second, first)) {
		t.Errorf("AllStamps in another order = %v", got)
	}
}

// isSettled tells whether an item's verdict cannot change any more with time alone, as long as it is unbroken: all of its pieces were there by a time that is past.
func isSettled(w impl.World, x impl.Item) bool {
	if !isUnbrokenSlowly(w, x.Id) {
		return false
	}
	last := x.Strand.Chain[len(x.Strand.Chain)-1]
	made, ok := agreedStampsSlowly(w.Frame.Authorities, last.Stamps, w.Frame.Liars)
	return ok && last.Count == len(x.Strand.Pieces) && made.To <= w.Frame.Now
}

// careful makes events by which signatures are renewed, answered for and renewed again, with anything else in between.
func (h historian) careful(w impl.World) []impl.Event {
	list := []impl.Event{}
	add := func(e impl.Event) {
		list = append(list, e)
		w, _ = happenSlowly(w, e)
	}
	renewBoth := func() {
		ids := [][]int{{1}, {1, 2}, {2, 3}, {2, 3, 4}, {3, 4}}[min(4, w.Frame.Now/20)]
		add(renewing(0, h.oneOf(0, -9, 70), ids...))
		add(renewing(1, h.oneOf(0, -60, 4), ids...))
	}
	add(event(impl.EvTick, h.from(15, 50)))
	for range 3 {
		add(signing(h.from(0, 1), h.oneOf(11, 12, 13), pages(h.from(0, 9)), 0, w.Frame.Now+h.oneOf(5, 90)))
		renewBoth()
		add(event(impl.EvTick, h.from(2, 5)))
		for id := range w.Next {
			add(event(impl.EvAnswer, id))
		}
		renewBoth()
		for range h.from(0, 6) {
			add(h.next(w, false))
		}
	}
	return list
}

// No forged signature is valid, and valid ones last: they stay so until a renewal is missed.
func TestNoForgedSignatureIsValid(t *testing.T) {
	lasting, missed, forged := 0, 0, 0
	for seed := range uint64(120) {
		h, w := newHistorian(5000+seed), impl.NewWorld(int(seed%2))
		list := historyOf(seed, w, 100, false)
		if seed%4 < 3 {
			list = h.careful(w)
		}
		for _, e := range list {
			next, _ := impl.ApplyEvent(w, e)
			if got := impl.ForgedValid(next); len(got) > 0 || impl.FaultOf(next) != "" {
				t.Fatalf("seed %d: after %v at %d, forged and valid are %v, and the fault is %q", seed, e, next.Frame.Now, got, impl.FaultOf(next))
			}
			for _, id := range impl.ValidItems(w) {
				i, k := whereSlowly(w, id)
				if now, _ := whereSlowly(next, id); now < 0 || !isSettled(w, w.Archives[i].Items[k]) {
					continue
				}
				if !impl.IsUnbrokenItem(next, id) {
					missed++
					continue
				}
				lasting++
				if got := impl.ItemVerdict(next, id); got.Code != impl.VdValid {
					t.Errorf("seed %d: after %v at %d, the verdict of %d became %v, and was %v", seed, e, w.Frame.Now, id, got, impl.ItemVerdict(w, id))
				}
			}
			w = next
		}
		forged += len(w.Forged)
		if seed%6 == 0 {
			checkAudit(t, w)
		}
	}
	if lasting < 300 || missed < 5 || forged < 40 {
		t.Errorf("only %d verdicts lasted, %d renewals were missed, and %d items were forged", lasting, missed, forged)
	}
}

// A signature that is renewed in time stays valid through all breaks until a renewal is missed.
func TestValidForACentury(t *testing.T) {
	for liars := range 2 {
		w := impl.RunEvents(impl.NewWorld(liars), []impl.Event{
			event(impl.EvTick, 22), signing(0, 11, pages(1), 0, 9000), event(impl.EvTick, 1), renewing(0, -9, 1, 2), event(impl.EvTick, 3), event(impl.EvAnswer, 1), event(impl.EvTick, 1), renewing(0, 9, 1, 2),
			event(impl.EvTick, 13), renewing(0, -40, 2, 3), event(impl.EvTick, 23), renewing(0, 5, 3, 4),
		})
		forged := impl.RunEvents(w, []impl.Event{forging(0, 11, pages(2)), event(impl.EvBackdate, 2, 20), event(impl.EvFake, 2, 60), event(impl.EvFake, 1, 60), renewing(0, 0, 3, 4)})
		if w.Frame.Now != 63 || impl.RenewalCount(w.Archives[0]) != 4 || !slices.Equal(forged.Forged, []int{2}) || impl.RenewalCount(forged.Archives[0]) != 7 {
			t.Fatalf("with %d liars, the worlds are %v and %v", liars, w, forged)
		}
		for now, want := range map[int]int{63: 1, 70: 1, 163: 1, 199: 1, 200: 3, 201: 3} {
			for _, later := range []impl.World{w, forged} {
				later = withWorld(later, func(w *impl.World) { w.Frame.Now = now })
				if got := impl.ItemVerdict(later, 1); got.Code != want || impl.IsUnbrokenItem(later, 1) != (want == 1) || impl.FaultOf(later) != "" {
					t.Errorf("with %d liars, at %d, the verdict is %v", liars, now, got)
				}
				checkAudit(t, later)
			}
		}
	}
}

func TestAuditLeavesArgumentsAlone(t *testing.T) {
	for _, w := range []impl.World{{}, busyWorld(), withWorld(judgedWorld(), func(w *impl.World) { w.Forged = []int{1, 4} })} {
		checkMemory(t, "ValidItems", w, func(w impl.World) []int { return impl.ValidItems(w) })
		checkMemory(t, "ForgedValid", w, func(w impl.World) []int { return impl.ForgedValid(w) })
		checkMemory(t, "AllStamps", w, func(w impl.World) []impl.Stamp { return impl.AllStamps(w) })
		checkMemory(t, "the audit", w, func(w impl.World) string {
			if impl.IsUnbrokenItem(w, 1) || impl.CountVerdicts(w, 1) > 7 || impl.ItemVerdict(w, 1).Code > 7 {
				return ""
			}
			return impl.FaultOf(w)
		})
	}
}
