package tests

import (
	"math"
	"slices"
	"testing"

	"loop.example/g00597/impl"
)

// stepOf performs the function of chapter 34 or 35 for an event; false if there is none.
func stepOf(w impl.World, e impl.Event) (impl.World, bool) {
	switch e.Kind {
	case impl.EvTick:
		return impl.StepTick(w, e.A)
	case impl.EvSign:
		return impl.StepSign(w, e.A, e.B, e.Doc, e.C, e.D)
	case impl.EvAnswer:
		return impl.StepAnswer(w, e.A)
	case impl.EvRevoke:
		return impl.StepRevoke(w, e.A)
	case impl.EvRenew:
		return impl.StepRenew(w, e.A, e.Ids, e.B)
	case impl.EvMove:
		return impl.StepMove(w, e.A, e.B, e.C)
	case impl.EvForget:
		return impl.StepForget(w, e.A)
	case impl.EvForge:
		return impl.StepForge(w, e.A, e.B, e.Doc)
	case impl.EvBackdate:
		return impl.StepBackdate(w, e.A, e.B)
	case impl.EvFake:
		return impl.StepFake(w, e.A, e.B)
	}
	return w, false
}

// checkStep checks whether a step succeeds, and all of the world after it. It returns this world.
func checkStep(t *testing.T, w impl.World, e impl.Event, wantOk bool) impl.World {
	t.Helper()
	want, ok := happenSlowly(w, e)
	if ok != wantOk {
		t.Errorf("by its definition, whether the event %v succeeds at %d: %t", e, w.Frame.Now, ok)
	}
	got, ok := stepOf(w, e)
	if ok != wantOk || !same(got, want) {
		t.Errorf("the step %v at %d = %v, %t, want %v, %t", e, w.Frame.Now, got, ok, want, wantOk)
	}
	if !ok && !same(got, w) {
		t.Errorf("the step %v at %d does not succeed, but changes %v to %v", e, w.Frame.Now, w, got)
	}
	return got
}

// checkSteps checks events that have one number each.
func checkSteps(t *testing.T, w impl.World, kind int, wantOk bool, numbers ...int) {
	t.Helper()
	for _, n := range numbers {
		checkStep(t, w, event(kind, n), wantOk)
	}
}

// withWorld returns a copy of w with a change.
func withWorld(w impl.World, change func(w *impl.World)) impl.World {
	w = clone(w)
	change(&w)
	return w
}

func TestStepTick(t *testing.T) {
	w := busyWorld()
	checkSteps(t, w, impl.EvTick, true, 0, 1, 2, 50, 99, 100)
	checkSteps(t, w, impl.EvTick, false, -1, -2, 101, 102, math.MinInt, math.MaxInt)
	if got := checkStep(t, w, event(impl.EvTick, 7), true); got.Frame.Now != 59 {
		t.Errorf("after 7 times, now is %d", got.Frame.Now)
	}
	// Times at the very end.
	checkSteps(t, worldAt(9900, 0), impl.EvTick, true, 0, 99, 100)
	checkSteps(t, worldAt(9901, 0), impl.EvTick, true, 0, 99)
	checkSteps(t, worldAt(9901, 0), impl.EvTick, false, 100, 101)
	checkSteps(t, worldAt(9999, 0), impl.EvTick, true, 0, 1)
	checkSteps(t, worldAt(9999, 0), impl.EvTick, false, 2)
	checkSteps(t, worldAt(10000, 0), impl.EvTick, true, 0)
	checkSteps(t, worldAt(10000, 0), impl.EvTick, false, 1, 100)
	// Times that there are not, also those at which the sum wraps around.
	checkSteps(t, worldAt(10001, 0), impl.EvTick, false, 0, 1)
	checkSteps(t, worldAt(-50, 0), impl.EvTick, true, 0, 100)
	checkSteps(t, worldAt(math.MaxInt, 0), impl.EvTick, false, 0)
	checkSteps(t, worldAt(math.MaxInt, 0), impl.EvTick, true, 1)
	checkSteps(t, worldAt(math.MinInt, 0), impl.EvTick, true, 0, 100)
}

func TestStepSign(t *testing.T) {
	w := busyWorld()
	for i, k := range []int{11, 12, 13} {
		for archive := range 2 {
			for _, org := range []int{0, 50, 99} {
				got := checkStep(t, w, signing(archive, k, pages(4), org, 90), true)
				items := got.Archives[archive].Items
				x := items[len(items)-1]
				if x.Id != 4 || got.Next != 5 || x.Sig.Serial != i+1 || x.Sig.Method != 3 || x.Sig.Org != org || x.Sig.Commit != impl.CoAuthor || len(x.Strand.Pieces) != 2 || !impl.IsWorld(got) || !impl.CheckSignature(w.Frame.Keys, x.Sig) {
					t.Errorf("the item %v was signed by %d", x, k)
				}
			}
		}
	}
	// The method is the one that ends last at that time.
	for now, want := range map[int]int{20: 2, 39: 2, 40: 3, 59: 3, 60: 4, 9000: 4} {
		if got := checkStep(t, worldAt(now, 0), signing(0, 12, pages(4), 0, 90), true); got.Archives[0].Items[0].Sig.Method != want {
			t.Errorf("at %d, it was signed by the method %d", now, got.Archives[0].Items[0].Sig.Method)
		}
	}
	// Each reason alone for which it does not succeed.
	for _, i := range []int{-1, 2, 3, math.MinInt, math.MaxInt} {
		checkStep(t, w, signing(i, 12, pages(4), 0, 90), false)
	}
	for _, k := range []int{1, 2, 21, 31, 34, 10, 0, 99, -12} {
		checkStep(t, w, signing(0, k, pages(4), 0, 90), false)
	}
	checkStep(t, withWorld(w, func(w *impl.World) { w.Frame.Methods = nil }), signing(0, 12, pages(4), 0, 90), false)
	checkStep(t, withWorld(w, func(w *impl.World) { w.Frame.Methods = []impl.Method{method(2, 0, 52, 70)} }), signing(0, 12, pages(4), 0, 90), false)
	checkStep(t, withWorld(w, func(w *impl.World) { w.Frame.Methods = []impl.Method{method(2, 0, 53, 40)} }), signing(0, 12, pages(4), 0, 90), true)
	checkStep(t, withWorld(w, func(w *impl.World) { w.Certs[1].Key = 14 }), signing(0, 12, pages(4), 0, 90), false)
	checkStep(t, withWorld(w, func(w *impl.World) { w.Certs = nil }), signing(0, 12, pages(4), 0, 90), false)
	checkStep(t, withWorld(w, func(w *impl.World) { w.Frame.Keys = slices.Delete(w.Frame.Keys, 3, 4) }), signing(0, 12, pages(4), 0, 90), false)
	for now, want := range map[int]bool{18: false, 19: false, 20: true, 21: true} {
		checkStep(t, worldAt(now, 0), signing(0, 12, pages(4), 0, 90), want)
	}
	for _, d := range badDocuments {
		checkStep(t, w, signing(0, 12, d, 0, 90), false)
	}
	for org, want := range map[int]bool{-1: false, 0: true, 99: true, 100: false} {
		checkStep(t, w, signing(0, 12, pages(4), org, 90), want)
	}
	for keep, want := range map[int]bool{-1: false, 0: true, 10000: true, 10001: false, math.MinInt: false, math.MaxInt: false} {
		checkStep(t, w, signing(0, 12, pages(4), 0, keep), want)
	}
	checkStep(t, withWorld(w, func(w *impl.World) { w.Certs[1].Serial = 1000 }), signing(0, 12, pages(4), 0, 90), false)
}

func TestStepSignInOddWorlds(t *testing.T) {
	w := busyWorld()
	// The archive is full, or becomes so.
	for n, want := range map[int]bool{6: true, 7: true, 8: false, 9: false} {
		full := withWorld(w, func(w *impl.World) { w.Archives[0], w.Next = archiveOf(0, upTo(n)...), 20 })
		checkStep(t, full, signing(0, 12, pages(4), 0, 90), want)
	}
	// The Id is there already, is none, or is the last one that there is.
	for next, want := range map[int]bool{1: true, 2: false, 3: true, 999: true, 1000: false, 0: false, -1: false, math.MaxInt: false} {
		checkStep(t, withWorld(w, func(w *impl.World) { w.Next = next }), signing(0, 12, pages(4), 0, 90), want)
	}
	// An archive is known by its index, and must be valid.
	checkStep(t, withWorld(w, func(w *impl.World) { w.Archives[0].Id = 9 }), signing(0, 12, pages(4), 0, 90), true)
	checkStep(t, withWorld(w, func(w *impl.World) { w.Archives[0].Id = 100 }), signing(0, 12, pages(4), 0, 90), false)
	checkStep(t, withWorld(w, func(w *impl.World) { w.Archives = nil }), signing(0, 12, pages(4), 0, 90), false)
	// The first certificate with the key, even if it is not its owner's, and the first key.
	two := withWorld(w, func(w *impl.World) {
		w.Certs = append([]impl.Cert{cert(77, 12, 5, 3, 4, 9)}, w.Certs...)
		w.Frame.Keys = append(w.Frame.Keys, key(12, 7, 3, 9000, 5))
	})
	if got := checkStep(t, two, signing(0, 12, pages(4), 0, 90), true); got.Archives[0].Items[1].Sig.Serial != 77 {
		t.Errorf("it was signed with the certificate %d", got.Archives[0].Items[1].Sig.Serial)
	}
	checkStep(t, withWorld(w, func(w *impl.World) { w.Frame.Methods = []impl.Method{method(-5, 0, 90, 90)} }), signing(0, 12, pages(4), 0, 90), false)
	checkStep(t, withWorld(w, func(w *impl.World) { w.Frame.Methods = []impl.Method{method(100, 0, 90, 90)} }), signing(0, 12, pages(4), 0, 90), false)
}

func TestStepAnswer(t *testing.T) {
	w := busyWorld()
	for id, want := range map[int]bool{1: true, 2: true, 3: true, 0: false, 4: false, -1: false, math.MinInt: false, math.MaxInt: false} {
		checkStep(t, w, event(impl.EvAnswer, id), want)
	}
	told := func(w impl.World, id int) impl.Status {
		t.Helper()
		got := checkStep(t, w, event(impl.EvAnswer, id), true)
		i, k := whereSlowly(got, id)
		pieces := got.Archives[i].Items[k].Strand.Pieces
		x, ok := impl.PieceStatus(pieces[len(pieces)-1])
		if !ok || !impl.CheckStatus(w.Frame.Keys, x) || x.AsOf != w.Frame.Now {
			t.Errorf("the answer for %d is %v", id, pieces[len(pieces)-1])
		}
		return x
	}
	if x := told(w, 2); x.Serial != 3 || x.Issuer != 2 || x.Ended != -1 {
		t.Errorf("the answer about the third certificate is %v", x)
	}
	// The certificate ended before, now, from the next time on, and later.
	for ended, want := range map[int]int{-1: -1, 0: 0, 30: 30, 51: 51, 52: 52, 53: 53, 54: -1, 10001: -1} {
		if x := told(withWorld(w, func(w *impl.World) { w.Ended[1] = ended }), 1); x.Ended != want || x.Serial != 2 || x.Issuer != 1 {
			t.Errorf("with the end %d, the answer is %v", ended, x)
		}
	}
	// At the very end, what has ended at Never has ended from the next time on.
	end := withWorld(w, func(w *impl.World) { w.Frame.Now, w.Ended[1] = 10000, 10001 })
	if x := told(end, 1); x.Ended != 10001 {
		t.Errorf("at the very end, the answer is %v", x)
	}
	// The same answer twice is not added twice.
	got := checkStep(t, w, event(impl.EvAnswer, 1), true)
	checkStep(t, got, event(impl.EvAnswer, 1), false)
	got.Frame.Now++
	checkStep(t, got, event(impl.EvAnswer, 1), true)
}

func TestStepAnswerThatDoesNotSucceed(t *testing.T) {
	w := busyWorld()
	refuse := func(wantOk bool, change func(w *impl.World)) {
		t.Helper()
		checkStep(t, withWorld(w, change), event(impl.EvAnswer, 1), wantOk)
	}
	strand := func(w *impl.World) *impl.Strand { return &w.Archives[1].Items[0].Strand }
	// The second piece is none, or no certificate, or one by another key than it tells.
	refuse(false, func(w *impl.World) { strand(w).Pieces = nil })
	refuse(false, func(w *impl.World) { strand(w).Pieces = strand(w).Pieces[:1] })
	refuse(false, func(w *impl.World) { strand(w).Pieces = slices.Delete(strand(w).Pieces, 1, 2) })
	refuse(false, func(w *impl.World) { strand(w).Pieces[1].Key++ })
	refuse(false, func(w *impl.World) { strand(w).Pieces[1].Ints = strand(w).Pieces[1].Ints[:6] })
	refuse(true, func(w *impl.World) { strand(w).Pieces[1].Mark++ })
	// It has another Serial, which counts, and another issuer, which does not.
	refuse(false, func(w *impl.World) { strand(w).Pieces[1] = impl.CertPiece(cert(4, 12, 1, 20, 100, 1)) })
	refuse(true, func(w *impl.World) { strand(w).Pieces[1] = impl.CertPiece(cert(3, 12, 1, 20, 100, 1)) })
	refuse(true, func(w *impl.World) { strand(w).Pieces[1] = impl.CertPiece(cert(2, 12, 1, 20, 100, 99)) })
	refuse(false, func(w *impl.World) { w.Certs = w.Certs[:1] })
	refuse(false, func(w *impl.World) { w.Certs[1].Serial++; w.Certs = w.Certs[:2] })
	// Ended has no element for it.
	refuse(false, func(w *impl.World) { w.Ended = w.Ended[:1] })
	refuse(true, func(w *impl.World) { w.Ended = w.Ended[:2] })
	refuse(false, func(w *impl.World) { w.Ended = nil })
	refuse(false, func(w *impl.World) { w.Ended[1] = -2 })
	// Of two certificates with one Serial, the first one counts, with what is told about it.
	refuse(true, func(w *impl.World) { w.Certs[0].Serial, w.Certs[0].Issuer, w.Ended[0] = 2, 2, 30 })
	// The issuer's key is not there, or is born now or later.
	refuse(false, func(w *impl.World) { w.Certs[1].Issuer = 5 })
	refuse(false, func(w *impl.World) { w.Frame.Keys = w.Frame.Keys[1:] })
	refuse(true, func(w *impl.World) { w.Frame.Keys[0].Born = 52 })
	refuse(false, func(w *impl.World) { w.Frame.Keys[0].Born = 53 })
	// The answer would not be valid, or the strand would not.
	refuse(false, func(w *impl.World) { w.Frame.Now = 10001 })
	refuse(false, func(w *impl.World) { w.Certs[1].Serial = 1000; strand(w).Pieces[1].Ints[1] = 1000 })
	refuse(false, func(w *impl.World) { strand(w).Pieces = append(strand(w).Pieces, numbered(9)...) })
	refuse(true, func(w *impl.World) { strand(w).Pieces = append(strand(w).Pieces, numbered(8)...) })
	// The rest of the item need not be valid; of two items, the first one is meant.
	refuse(true, func(w *impl.World) { w.Archives[1].Items[0].Doc, w.Archives[1].Items[0].Keep = impl.Document{}, -5 })
	refuse(true, func(w *impl.World) { w.Archives[0].Items[0].Id = 1 })
}

func TestStepRevoke(t *testing.T) {
	w := busyWorld()
	checkSteps(t, w, impl.EvRevoke, true, 1, 2)
	// The first one has ended before.
	checkSteps(t, w, impl.EvRevoke, false, 0, -1, 3, 4, math.MinInt, math.MaxInt)
	if got := checkStep(t, w, event(impl.EvRevoke, 2), true); !slices.Equal(got.Ended, []int{26, -1, 53}) || !slices.Equal(got.Certs, w.Certs) {
		t.Errorf("after the end of the third certificate: %v", got.Ended)
	}
	for ended, want := range map[int]bool{-2: false, -1: true, 0: false, 52: false, 53: false, 10001: false} {
		checkStep(t, withWorld(w, func(w *impl.World) { w.Ended[1] = ended }), event(impl.EvRevoke, 1), want)
	}
	// It is the list of the ends that has the index.
	checkStep(t, withWorld(w, func(w *impl.World) { w.Ended = w.Ended[:2] }), event(impl.EvRevoke, 2), false)
	checkStep(t, withWorld(w, func(w *impl.World) { w.Ended = append(w.Ended, -1) }), event(impl.EvRevoke, 3), true)
	checkStep(t, withWorld(w, func(w *impl.World) { w.Certs = nil }), event(impl.EvRevoke, 1), true)
	if got := checkStep(t, worldAt(10000, 0), event(impl.EvRevoke, 1), true); got.Ended[1] != impl.Never || !impl.IsWorld(got) {
		t.Errorf("a certificate that ends at the very end: %v", got.Ended)
	}
}

func TestStepRenew(t *testing.T) {
	w := busyWorld()
	for _, ids := range [][]int{{1}, {2}, {3}, {1, 2}, {1, 3}, {2, 3}, {1, 2, 3}} {
		for archive := range 2 {
			for _, lie := range []int{0, 5, -5, 10000, -10000} {
				got := checkStep(t, w, renewing(archive, lie, ids...), true)
				if impl.RenewalCount(got.Archives[archive]) != impl.RenewalCount(w.Archives[archive])+len(w.Archives[archive].Items) || !impl.IsWorld(got) {
					t.Errorf("after the renewal by %v: %v", ids, got.Archives[archive])
				}
			}
		}
	}
	// Who is lying tells another time, and the others do not; Seqs go up for those who stamp.
	for lie, want := range map[int]int{0: 52, 1: 53, -1: 51, -52: 0, -53: 0, -10000: 0, 9948: 10000, 9949: 10000, 10000: 10000} {
		got := checkStep(t, w, renewing(0, lie, 1, 3), true)
		stamps := got.Archives[0].Items[0].Strand.Chain[0].Stamps
		if len(stamps) != 2 || stamps[0].Time != want || stamps[1].Time != 52 || stamps[0].Seq != 1 || stamps[1].Seq != 0 || !slices.Equal(got.Seqs, []int{2, 1, 1, 0}) {
			t.Errorf("with the lie %d: %v, %v", lie, stamps, got.Seqs)
		}
	}
	// Each reason alone for which it does not succeed.
	for _, i := range []int{-1, 2, math.MinInt, math.MaxInt} {
		checkStep(t, w, renewing(i, 0, 1, 2), false)
	}
	for _, ids := range [][]int{nil, {}, {2, 1}, {1, 1}, {1, 2, 2}, {1, 3, 2}, {0}, {5}, {1, 9}, {0, 1}, {-1, 1}, {4}, {1, 4}, {1, 2, 3, 4}, {math.MinInt}, {math.MaxInt}} {
		checkStep(t, w, renewing(0, 0, ids...), false)
	}
	for lie, want := range map[int]bool{-10000: true, -10001: false, 10000: true, 10001: false, math.MinInt: false, math.MaxInt: false} {
		checkStep(t, w, renewing(0, lie, 1, 2), want)
		// The lie is asked for also if nobody lies.
		checkStep(t, w, renewing(0, lie, 2), want)
	}
	for now, want := range map[int]bool{58: false, 59: false, 60: true, 61: true} {
		checkStep(t, withWorld(w, func(w *impl.World) { w.Frame.Now = now }), renewing(0, 0, 4), want)
	}
	checkStep(t, impl.NewWorld(0), renewing(0, 0, 1), false)
	checkStep(t, withWorld(w, func(w *impl.World) { w.Archives[0].Items = nil }), renewing(0, 0, 1, 2), false)
}

func TestStepRenewInOddWorlds(t *testing.T) {
	w := busyWorld()
	refuse := func(wantOk bool, change func(w *impl.World)) {
		t.Helper()
		checkStep(t, withWorld(w, change), renewing(0, 3, 1, 3), wantOk)
	}
	refuse(false, func(w *impl.World) { w.Frame.Methods = nil })
	refuse(false, func(w *impl.World) { w.Frame.Methods = []impl.Method{method(-5, 0, 90, 90)} })
	refuse(true, func(w *impl.World) { w.Frame.Methods = []impl.Method{method(100, 0, 90, 90)} })
	refuse(true, func(w *impl.World) { w.Frame.Methods = []impl.Method{method(0, 0, 90, 90)} })
	// Keys that are not there, and those that are born now and later.
	refuse(false, func(w *impl.World) { w.Frame.Authorities[2].Key = 35 })
	refuse(true, func(w *impl.World) { w.Frame.Keys[8].Born = 52 })
	refuse(false, func(w *impl.World) { w.Frame.Keys[8].Born = 53 })
	refuse(false, func(w *impl.World) { w.Frame.Keys[6].Born = 53 })
	// Seqs that are missing, or are no numbers of stamps.
	refuse(false, func(w *impl.World) { w.Seqs = w.Seqs[:2] })
	refuse(true, func(w *impl.World) { w.Seqs = w.Seqs[:3] })
	refuse(false, func(w *impl.World) { w.Seqs[2] = -1 })
	refuse(true, func(w *impl.World) { w.Seqs[1] = -1 })
	// Times at which no stamp can be made, unless the lie helps.
	at := func(w *impl.World, now int) {
		w.Frame.Now, w.Frame.Methods = now, []impl.Method{method(2, -90, 20000, 20000)}
		w.Frame.Keys[6].Born, w.Frame.Keys[8].Born = -90, -90
	}
	for now, want := range map[int]bool{-1: false, 0: true, 10000: true, 10001: false, math.MaxInt: false} {
		refuse(want, func(w *impl.World) { at(w, now) })
	}
	refuse(true, func(w *impl.World) { at(w, 10001); w.Lying = []int{1, 3} })
	refuse(true, func(w *impl.World) { at(w, -50); w.Lying = []int{1, 3} })
	// The archive is not valid, or an item is full of renewals.
	refuse(false, func(w *impl.World) { w.Archives[0].Id = 100 })
	refuse(false, func(w *impl.World) { w.Archives[0].Items[0].Keep = -1 })
	for n := 6; n < 10; n++ {
		refuse(n < 8, func(w *impl.World) { w.Archives[0].Items = []impl.Item{itemWith(1, 50), oftenRenewed(2, n)} })
	}
	// Nobody lies, everybody does, and somebody who is no authority.
	for _, lying := range [][]int{nil, {1, 2, 3, 4}, {3}, {9}, {3, 1}} {
		refuse(true, func(w *impl.World) { w.Lying = lying })
	}
	// Of two authorities with one Id, the first one stamps; their Ids need not be valid.
	refuse(true, func(w *impl.World) { w.Frame.Authorities[3] = authority(3, 97, 0) })
	refuse(true, func(w *impl.World) { w.Frame.Authorities[3] = authority(3, 33, 0) })
	refuse(false, func(w *impl.World) { w.Frame.Authorities[1] = authority(3, 97, 0) })
	negative := withWorld(w, func(w *impl.World) { w.Frame.Authorities[0].Id = -1 })
	checkStep(t, negative, renewing(0, 3, -1, 3), true)
	checkStep(t, negative, renewing(0, 3, 3, -1), false)
}

func TestStepMove(t *testing.T) {
	w := busyWorld()
	got := checkStep(t, w, event(impl.EvMove, 1, 0, 1), true)
	if !slices.Equal(idsOf(got.Archives[0]), []int{1, 2}) || !slices.Equal(idsOf(got.Archives[1]), []int{3}) || !impl.IsWorld(got) || !slices.Equal(got.Forged, w.Forged) {
		t.Errorf("after the move: %v", got.Archives)
	}
	checkStep(t, got, event(impl.EvMove, 1, 0, 1), false)
	checkStep(t, w, event(impl.EvMove, 1, 0, 3), true)
	checkStep(t, w, event(impl.EvMove, 0, 1, 2), true)
	for _, n := range [][3]int{{0, 0, 2}, {1, 1, 1}, {0, 1, 1}, {0, 1, 3}, {1, 0, 2}, {1, 0, 4}, {0, 1, 0}, {-1, 0, 1}, {1, -1, 1}, {1, 2, 1}, {2, 0, 1}, {-1, -1, 1}, {2, 2, 1}, {math.MinInt, 0, 1}, {1, math.MaxInt, 1}} {
		checkStep(t, w, event(impl.EvMove, n[0], n[1], n[2]), false)
	}
	refuse := func(wantOk bool, change func(w *impl.World)) {
		t.Helper()
		checkStep(t, withWorld(w, change), event(impl.EvMove, 1, 0, 3), wantOk)
	}
	refuse(false, func(w *impl.World) { w.Frame.Methods = nil })
	refuse(false, func(w *impl.World) { w.Frame.Methods = []impl.Method{method(-5, 0, 90, 90)} })
	refuse(true, func(w *impl.World) { w.Frame.Methods = []impl.Method{method(100, 0, 90, 90)} })
	refuse(true, func(w *impl.World) { w.Frame.Methods = []impl.Method{method(0, 0, 90, 90)} })
	refuse(false, func(w *impl.World) { w.Archives[0] = archiveOf(0, 4, 5, 6, 7, 8, 9, 10, 11) })
	refuse(true, func(w *impl.World) { w.Archives[0] = archiveOf(0, 4, 5, 6, 7, 8, 9, 10) })
	refuse(false, func(w *impl.World) { w.Archives[0].Items[0].Id = 3 })
	refuse(false, func(w *impl.World) { w.Archives[0].Id = 100 })
	refuse(true, func(w *impl.World) { w.Archives[0].Id, w.Archives[1].Id = 1, 1 })
	refuse(true, func(w *impl.World) { w.Archives[1].Id = -100 })
	refuse(false, func(w *impl.World) { w.Archives[1].Items[1].Keep = -1 })
	refuse(true, func(w *impl.World) { w.Archives[1].Items[0].Keep = -1 })
}

func TestStepForget(t *testing.T) {
	w := busyWorld()
	checkSteps(t, w, impl.EvForget, true, 0, 1)
	checkSteps(t, w, impl.EvForget, false, -1, 2, math.MinInt, math.MaxInt)
	// The item 2 is kept until 60. There may be nothing to forget.
	for now, want := range map[int]int{59: 1, 60: 1, 61: 0, 9000: 0} {
		later := withWorld(w, func(w *impl.World) { w.Frame.Now = now })
		got := checkStep(t, later, event(impl.EvForget, 0), true)
		if len(got.Archives[0].Items) != want || len(got.Archives[1].Items) != 2 || got.Next != 4 {
			t.Errorf("at %d, there are still %v", now, got.Archives)
		}
	}
	checkSteps(t, impl.NewWorld(0), impl.EvForget, true, 0, 1)
	// Forged items are forgotten as well, but not that they were forged.
	late := withWorld(w, func(w *impl.World) { w.Frame.Now, w.Archives[1].Items[1].Keep = 9500, 9400 })
	if got := checkStep(t, late, event(impl.EvForget, 1), true); len(got.Archives[1].Items) != 0 || !slices.Equal(got.Forged, []int{3}) || !impl.IsWorld(got) {
		t.Errorf("what is forgotten: %v", got)
	}
}

// Honest steps keep worlds valid, and so do attacks.
func TestStepsKeepWorldsValid(t *testing.T) {
	succeeded := map[int]int{}
	for seed := range uint64(40) {
		h, w := newHistorian(seed), impl.NewWorld(int(seed%2))
		for range 100 {
			e := h.next(w, seed%4 < 2)
			_, ok := happenSlowly(w, e)
			w = checkStep(t, w, e, ok)
			if ok {
				succeeded[e.Kind]++
			}
			if !impl.IsWorld(w) || !isWorldSlowly(w) {
				t.Fatalf("seed %d: after %v, the world %v is not valid", seed, e, w)
			}
		}
	}
	for kind := 1; kind <= 10; kind++ {
		if succeeded[kind] < 10 {
			t.Errorf("only %d steps of the kind %d succeeded", succeeded[kind], kind)
		}
	}
}

// Worlds that are not valid have steps by their definitions as well.
func TestStepsInDisturbedWorlds(t *testing.T) {
	succeeded := 0
	for seed := range uint64(400) {
		h := newHistorian(3000 + seed)
		w := h.disturbed([]impl.World{busyWorld(), judgedWorld()}[seed%2], []int{20, 60, 200, 800}[seed%4])
		for range 8 {
			e := h.next(w, false)
			_, ok := happenSlowly(w, e)
			next := checkStep(t, w, e, ok)
			if ok {
				succeeded++
			}
			// Most steps begin with the same world, so that what is odd in it stays.
			if h.IntN(4) == 0 {
				w = next
			}
		}
		if impl.IsWorld(w) != isWorldSlowly(w) {
			t.Errorf("seed %d: IsWorld(%v) = %t", seed, w, impl.IsWorld(w))
		}
		if seed%20 == 0 {
			checkAudit(t, w)
			checkText(t, "FormatWorld", impl.FormatWorld(w), formatWorldSlowly(w))
		}
	}
	if succeeded < 500 {
		t.Errorf("only %d steps succeeded", succeeded)
	}
}

// stepArgs are arguments of functions about worlds.
type stepArgs struct {
	World impl.World
	Event impl.Event
}

// stepResult is a world and whether something succeeded.
type stepResult struct {
	World impl.World
	Ok    bool
}

// someEvents are events of all kinds in a busyWorld, such as succeed and such as do not.
func someEvents() []impl.Event {
	return []impl.Event{
		event(impl.EvTick, 3), event(impl.EvTick, -1), signing(0, 12, pages(4), 0, 90), signing(0, 12, impl.Document{}, 0, 90), event(impl.EvAnswer, 1), event(impl.EvAnswer, 9), event(impl.EvRevoke, 1), event(impl.EvRevoke, 0),
		renewing(0, 3, 1, 2), renewing(1, 3, 2, 9), event(impl.EvMove, 0, 1, 2), event(impl.EvMove, 1, 0, 2), event(impl.EvForget, 0), event(impl.EvForget, 5),
		forging(0, 11, pages(4)), forging(0, 12, pages(4)), event(impl.EvBackdate, 3, 5), event(impl.EvBackdate, 1, 5), event(impl.EvFake, 1, 20), event(impl.EvFake, 2, 20),
	}
}

func TestStepsLeaveArgumentsAlone(t *testing.T) {
	for _, e := range someEvents() {
		checkMemory(t, impl.EventName(e.Kind), stepArgs{busyWorld(), e}, func(x stepArgs) stepResult {
			w, ok := stepOf(x.World, x.Event)
			return stepResult{w, ok}
		})
	}
}
