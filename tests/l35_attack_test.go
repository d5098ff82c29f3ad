package tests

import (
	"math"
	"slices"
	"testing"

	"loop.example/g00597/impl"
)

func TestStepForge(t *testing.T) {
	// The methods 1, 2 and 3 are broken at 50, 70 and 200; the keys 11, 12 and 13 use these.
	for number, end := range map[int]int{11: 50, 12: 70, 13: 200} {
		for now := end - 2; now <= end+1; now++ {
			w := worldAt(now, 0)
			got := checkStep(t, w, forging(0, number, pages(4)), now >= end)
			if now < end {
				continue
			}
			x := got.Archives[0].Items[0]
			if x.Id != 1 || x.Keep != 10000 || x.Sig.Org != 0 || x.Sig.Commit != impl.CoAuthor || x.Sig.Key != number || len(x.Strand.Pieces) != 2 || got.Next != 2 || !slices.Equal(got.Forged, []int{1}) || !impl.IsWorld(got) {
				t.Errorf("the item that was forged is %v", x)
			}
			// It looks as if its owner had signed it.
			signed, ok := impl.StepSign(w, 0, number, pages(4), 0, 10000)
			if !ok || !same(signed.Archives, got.Archives) || signed.Next != got.Next {
				t.Errorf("what is signed is %v, and what is forged %v", signed.Archives, got.Archives)
			}
		}
	}
	w := busyWorld()
	if got := checkStep(t, w, forging(0, 11, pages(4)), true); !slices.Equal(got.Forged, []int{3, 4}) {
		t.Errorf("forged are %v", got.Forged)
	}
	// Each reason alone for which it does not succeed.
	for _, i := range []int{-1, 2, math.MinInt, math.MaxInt} {
		checkStep(t, w, forging(i, 11, pages(4)), false)
	}
	for _, k := range []int{1, 12, 13, 21, 31, 34, 10, 0, 99, -11} {
		checkStep(t, w, forging(0, k, pages(4)), false)
	}
	for _, d := range badDocuments {
		checkStep(t, w, forging(0, 11, d), false)
	}
	refuse := func(wantOk bool, change func(w *impl.World)) {
		t.Helper()
		checkStep(t, withWorld(w, change), forging(0, 11, pages(4)), wantOk)
	}
	// When the key is born is not asked.
	for _, born := range []int{0, 52, 53, 9000} {
		refuse(true, func(w *impl.World) { w.Frame.Keys[2].Born = born })
	}
	refuse(false, func(w *impl.World) { w.Frame.Keys = slices.Delete(w.Frame.Keys, 2, 3) })
	refuse(false, func(w *impl.World) { w.Certs[0].Key = 14 })
	refuse(false, func(w *impl.World) { w.Certs = nil })
	refuse(false, func(w *impl.World) { w.Frame.Methods = w.Frame.Methods[:1] })
	refuse(false, func(w *impl.World) { w.Frame.Methods = nil })
	// A key of a method that nobody knows is stolen from the time 0 on.
	refuse(true, func(w *impl.World) { w.Frame.Methods = w.Frame.Methods[1:] })
	refuse(true, func(w *impl.World) { w.Frame.Methods[0].Broken = 52 })
	refuse(false, func(w *impl.World) { w.Frame.Methods[0].Broken = 53 })
	for n, want := range map[int]bool{7: true, 8: false} {
		refuse(want, func(w *impl.World) { w.Archives[0], w.Next = archiveOf(0, upTo(n)...), 20 })
	}
	refuse(false, func(w *impl.World) { w.Next = 2 })
	refuse(false, func(w *impl.World) { w.Next = 1000 })
}

func TestStepBackdate(t *testing.T) {
	w := busyWorld()
	got := checkStep(t, w, event(impl.EvBackdate, 3, 5), true)
	x := got.Archives[1].Items[1]
	r := x.Strand.Chain[0]
	if len(x.Strand.Chain) != 1 || r.Count != 2 || r.Method != 3 || len(r.Path) != 0 || len(r.Stamps) != 1 || r.Stamps[0].Authority != 1 || r.Stamps[0].Seq != 0 || r.Stamps[0].Time != 5 || !slices.Equal(got.Seqs, w.Seqs) || !impl.IsWorld(got) {
		t.Errorf("the renewal that was backdated is %v", r)
	}
	if docs := impl.DocDigests(x.Strand, x.Doc); !impl.CheckRenewal(w.Frame.Keys, w.Frame.Authorities, r, impl.LeafAt(x.Strand, docs, 0)) {
		t.Errorf("the renewal %v does not check", r)
	}
	// It is the leaf alone that is stamped, not the root of the archive, and the next one is over this one.
	again := checkStep(t, got, event(impl.EvBackdate, 3, 7), true)
	if root := again.Archives[1].Items[1].Strand.Chain[1].Root; root != impl.LeavesFor(got.Archives[1], 3)[1] || root == r.Root {
		t.Errorf("the second renewal has the root %d", root)
	}
	for time, want := range map[int]bool{-1: false, 0: true, 1: true, 10000: true, 10001: false, math.MinInt: false, math.MaxInt: false} {
		checkStep(t, w, event(impl.EvBackdate, 3, time), want)
	}
	// Items that are not forged, are not there, or were forged and are not there any more.
	for _, id := range []int{0, 1, 2, 4, -1, math.MinInt, math.MaxInt} {
		checkStep(t, w, event(impl.EvBackdate, id, 5), false)
	}
	refuse := func(wantOk bool, change func(w *impl.World)) {
		t.Helper()
		checkStep(t, withWorld(w, change), event(impl.EvBackdate, 3, 5), wantOk)
	}
	refuse(false, func(w *impl.World) { w.Forged = nil })
	refuse(true, func(w *impl.World) { w.Forged = []int{7, 3, 2} })
	refuse(false, func(w *impl.World) { w.Archives[1].Items = w.Archives[1].Items[:1] })
	refuse(true, func(w *impl.World) { w.Archives[0].Items[0].Id = 3 })
	refuse(false, func(w *impl.World) { w.Frame.Methods = nil })
	refuse(false, func(w *impl.World) { w.Frame.Methods = []impl.Method{method(-5, 0, 90, 90)} })
	refuse(true, func(w *impl.World) { w.Frame.Methods = []impl.Method{method(0, 0, 90, 90)} })
	// The strand is full of renewals, or not yet, or has no pieces.
	for n := 6; n < 10; n++ {
		refuse(n < 8, func(w *impl.World) { w.Archives[1].Items[1] = oftenRenewed(3, n) })
	}
	refuse(false, func(w *impl.World) { w.Archives[1].Items[1].Strand.Pieces = nil })
	// The rest of the item need not be valid.
	refuse(true, func(w *impl.World) { w.Archives[1].Items[1].Doc, w.Archives[1].Items[1].Keep = impl.Document{}, -1 })
	// Nobody is false, because nobody lies and no key is stolen.
	honest := func(w *impl.World) { w.Lying, w.Frame.Methods[0].Broken = nil, 53 }
	refuse(false, honest)
	refuse(true, func(w *impl.World) { honest(w); w.Lying = []int{3} })
	refuse(false, func(w *impl.World) { honest(w); w.Lying = []int{9} })
	refuse(true, func(w *impl.World) { w.Lying = nil })
	refuse(false, func(w *impl.World) { w.Frame.Authorities = nil })
	// One of those that are false cannot stamp.
	refuse(true, func(w *impl.World) { w.Frame.Authorities[0].Key = 98; w.Lying = []int{2} })
	refuse(false, func(w *impl.World) { w.Frame.Authorities[0].Key = 98 })
	refuse(false, func(w *impl.World) { w.Frame.Authorities[3].Key = 98; w.Lying = []int{1, 4} })
}

func TestWhoBackdates(t *testing.T) {
	for now, want := range map[int][]int{49: {3}, 50: {1, 3}, 69: {1, 3}, 70: {1, 2, 3}, 199: {1, 2, 3}, 200: {1, 2, 3}, 9000: {1, 2, 3}} {
		w := withWorld(busyWorld(), func(w *impl.World) { w.Frame.Now, w.Lying = now, []int{3} })
		got := checkStep(t, w, event(impl.EvBackdate, 3, 5), true)
		ids := []int{}
		for _, s := range got.Archives[1].Items[1].Strand.Chain[0].Stamps {
			ids = append(ids, s.Authority)
		}
		if !slices.Equal(ids, want) {
			t.Errorf("at %d, %v stamp for another time, want %v", now, ids, want)
		}
	}
}

func TestStepFake(t *testing.T) {
	w := busyWorld()
	// The key 1 is stolen, and 2, which issued the certificate of the item 2, is not before 200.
	for id, want := range map[int]bool{1: true, 3: true, 2: false, 0: false, 4: false, -1: false, math.MinInt: false, math.MaxInt: false} {
		checkStep(t, w, event(impl.EvFake, id, 20), want)
	}
	for now, want := range map[int]bool{49: false, 50: true, 51: true, 199: true} {
		later := withWorld(w, func(w *impl.World) { w.Frame.Now = now })
		checkStep(t, later, event(impl.EvFake, 1, 20), want)
		checkStep(t, later, event(impl.EvFake, 2, 20), false)
	}
	checkStep(t, withWorld(w, func(w *impl.World) { w.Frame.Now = 200 }), event(impl.EvFake, 2, 20), true)
	for asOf, want := range map[int]bool{-1: false, 0: true, 52: true, 53: true, 10000: true, 10001: false, math.MinInt: false, math.MaxInt: false} {
		got := checkStep(t, w, event(impl.EvFake, 1, asOf), want)
		pieces := got.Archives[1].Items[0].Strand.Pieces
		if x, ok := impl.PieceStatus(pieces[len(pieces)-1]); want && (!ok || x.AsOf != asOf || x.Ended != -1 || x.Serial != 2 || x.Issuer != 1) {
			t.Errorf("the false answer is %v", x)
		}
	}
	// As of 25, the same was answered before.
	checkStep(t, w, event(impl.EvFake, 1, 25), false)
	refuse := func(wantOk bool, change func(w *impl.World)) {
		t.Helper()
		checkStep(t, withWorld(w, change), event(impl.EvFake, 1, 20), wantOk)
	}
	strand := func(w *impl.World) *impl.Strand { return &w.Archives[1].Items[0].Strand }
	refuse(false, func(w *impl.World) { strand(w).Pieces = strand(w).Pieces[:1] })
	refuse(false, func(w *impl.World) { strand(w).Pieces = slices.Delete(strand(w).Pieces, 1, 2) })
	refuse(false, func(w *impl.World) { strand(w).Pieces[1].Key++ })
	refuse(false, func(w *impl.World) { w.Certs[1].Serial = 7 })
	refuse(false, func(w *impl.World) { w.Certs = nil })
	// Whether it has ended, and whether that is told, does not matter, nor when the issuer's key is born.
	refuse(true, func(w *impl.World) { w.Ended[1] = 3 })
	refuse(true, func(w *impl.World) { w.Ended = nil })
	refuse(true, func(w *impl.World) { w.Frame.Keys[0].Born = 9000 })
	refuse(false, func(w *impl.World) { w.Frame.Keys = w.Frame.Keys[1:] })
	refuse(false, func(w *impl.World) { w.Certs[1].Issuer = 2 })
	refuse(false, func(w *impl.World) { w.Certs[1].Issuer = 12 })
	refuse(true, func(w *impl.World) { w.Certs[1].Issuer = 31 })
	refuse(false, func(w *impl.World) { strand(w).Pieces = append(strand(w).Pieces, numbered(9)...) })
	refuse(true, func(w *impl.World) { strand(w).Pieces = append(strand(w).Pieces, numbered(8)...) })
	refuse(true, func(w *impl.World) { w.Frame.Methods = w.Frame.Methods[1:] })
}

func TestIsStolen(t *testing.T) {
	for number, end := range map[int]int{1: 50, 11: 50, 21: 50, 31: 50, 12: 70, 32: 70, 2: 200, 13: 200, 33: 200, 34: 10001, 0: math.MaxInt, 50: math.MaxInt, -11: math.MaxInt} {
		for _, now := range []int{0, 49, 50, 51, 69, 70, 71, 199, 200, 201, 9999, 10000, 10001, -1, math.MinInt} {
			f := worldAt(now, 1).Frame
			if got := impl.IsStolen(f, number); got != (now >= end) || got != isStolenSlowly(f, number) {
				t.Errorf("at %d, IsStolen(%d) = %t", now, number, got)
			}
		}
	}
	// Of a number that occurs twice, the first one counts; a method that nobody knows is broken from the beginning.
	f := impl.Frame{Keys: []impl.Key{key(5, 1, 2, 0, 9), key(5, 1, 1, 0, 9), key(6, 1, 1, 0, 9), key(6, 1, 2, 0, 9), key(7, 1, 3, 0, 9)}, Methods: []impl.Method{method(1, 0, 90, 50), method(2, 0, 90, 70)}, Now: 60}
	for number, want := range map[int]bool{5: false, 6: true, 7: true, 8: false} {
		if got := impl.IsStolen(f, number); got != want {
			t.Errorf("IsStolen(%d) = %t", number, got)
		}
	}
	for now, want := range map[int]bool{-1: false, 0: true} {
		f.Now = now
		if got := impl.IsStolen(f, 7); got != want {
			t.Errorf("at %d, whether a key of a method that nobody knows is stolen: %t", now, got)
		}
	}
}

func TestFalseAuthorities(t *testing.T) {
	for _, c := range []struct {
		now   int
		lying []int
		want  []int
	}{
		{0, nil, nil}, {49, nil, nil}, {50, nil, []int{1}}, {69, nil, []int{1}}, {70, nil, []int{1, 2}}, {199, nil, []int{1, 2}}, {200, nil, []int{1, 2, 3}}, {10000, nil, []int{1, 2, 3}},
		{0, []int{1}, []int{1}}, {50, []int{1}, []int{1}}, {50, []int{2}, []int{1, 2}}, {50, []int{3}, []int{1, 3}}, {50, []int{4}, []int{1, 4}}, {0, []int{4, 2}, []int{2, 4}}, {0, []int{9}, nil}, {70, []int{1, 2, 3, 4}, []int{1, 2, 3, 4}}, {70, []int{3, 3}, []int{1, 2, 3}},
	} {
		w := withWorld(worldAt(c.now, 0), func(w *impl.World) { w.Lying = c.lying })
		if got := impl.FalseAuthorities(w); !slices.Equal(got, c.want) || !slices.Equal(falseSlowly(w), c.want) {
			t.Errorf("at %d, with %v lying, FalseAuthorities = %v, want %v", c.now, c.lying, got, c.want)
		}
	}
	// An authority without a key is not stolen, but can lie; the order is that of the list.
	w := withWorld(worldAt(60, 0), func(w *impl.World) {
		w.Frame.Authorities = []impl.Authority{authority(8, 98, 0), authority(9, 99, 0), authority(4, 31, 0), authority(2, 32, 0), authority(4, 34, 0)}
		w.Lying = []int{9}
	})
	if got := impl.FalseAuthorities(w); !slices.Equal(got, []int{9, 4}) {
		t.Errorf("FalseAuthorities = %v", got)
	}
	if got := impl.FalseAuthorities(impl.World{Lying: []int{1}}); len(got) != 0 {
		t.Errorf("FalseAuthorities of nothing = %v", got)
	}
}

// Thieves make nothing older: what was forged has no bound before it was forged, and no attack changes the verdict of what is there.
func TestThievesMakeNothingOlder(t *testing.T) {
	succeeded := 0
	for seed := range uint64(60) {
		h, w := newHistorian(1000+seed), impl.NewWorld(int(seed%2))
		forgedAt := map[int]int{}
		for range 100 {
			e := h.next(w, false)
			next, ok := stepOf(w, e)
			if ok && e.Kind == impl.EvForge {
				forgedAt[w.Next] = w.Frame.Now
			}
			if ok && e.Kind >= impl.EvForge {
				succeeded++
				for id := range w.Next {
					i, k := whereSlowly(w, id)
					if i < 0 {
						continue
					}
					if before, after := impl.JudgeItem(w.Frame, w.Archives[i].Items[k]), impl.JudgeItem(next.Frame, next.Archives[i].Items[k]); before != after {
						t.Errorf("seed %d: %v changes the verdict of %d from %v to %v", seed, e, id, before, after)
					}
				}
			}
			w = next
			for id, then := range forgedAt {
				i, k := whereSlowly(w, id)
				if i < 0 {
					continue
				}
				x := w.Archives[i].Items[k]
				if bound := impl.BoundOf(w.Frame, x.Strand, impl.DocDigests(x.Strand, x.Doc), 0); bound < then {
					t.Errorf("seed %d: what was forged at %d has the bound %d", seed, then, bound)
				}
			}
		}
	}
	if succeeded < 100 {
		t.Errorf("only %d attacks succeeded", succeeded)
	}
}

func TestAttacksLeaveArgumentsAlone(t *testing.T) {
	checkMemory(t, "FalseAuthorities", busyWorld(), func(w impl.World) []int { return impl.FalseAuthorities(w) })
	checkMemory(t, "IsStolen", busyWorld(), func(w impl.World) bool { return impl.IsStolen(w.Frame, 11) })
}
