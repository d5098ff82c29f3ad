package tests

import (
	"math"
	"slices"
	"testing"

	"loop.example/g00597/impl"
)

// nextLeafSlowly tells by the definition alone which leaf the next renewal of an item has.
func nextLeafSlowly(method int, x impl.Item) int {
	before := 0
	if n := len(x.Strand.Chain); n > 0 {
		before = renewalDigestSlowly(method, x.Strand.Chain[n-1])
	}
	return leafSlowly(method, anyDigestSlowly(method, x.Doc), x.Strand.Pieces, before)
}

// leavesSlowly tells by the definition alone what LeavesFor returns.
func leavesSlowly(a impl.Archive, method int) []int {
	leaves := []int{}
	for _, x := range a.Items {
		leaves = append(leaves, nextLeafSlowly(method, x))
	}
	return leaves
}

// archiveRootSlowly tells by the definition alone what RootFor returns.
func archiveRootSlowly(a impl.Archive, method int) int {
	if len(a.Items) < 1 || len(a.Items) > 16 {
		return -1
	}
	return rootSlowly(method, leavesSlowly(a, method))
}

// sealedSlowly tells by the definition alone what SealArchive returns.
func sealedSlowly(a impl.Archive, method int, stamps []impl.Stamp) (impl.Archive, bool) {
	sealed, leaves := clone(a), leavesSlowly(a, method)
	for i := range sealed.Items {
		s := &sealed.Items[i].Strand
		s.Chain = append(s.Chain, impl.Renewal{Count: len(s.Pieces), Method: method, Root: archiveRootSlowly(a, method), Path: pathSlowly(method, leaves, i), Stamps: slices.Clone(stamps)})
		if !isStrandSlowly(*s) {
			return clone(a), false
		}
	}
	if len(a.Items) == 0 || !isArchiveSlowly(a) || !isArchiveSlowly(sealed) {
		return clone(a), false
	}
	return sealed, true
}

// oftenRenewed returns an item with so many renewals.
func oftenRenewed(id int, n int) impl.Item {
	return itemWith(id, 50, slices.Repeat([]renewed{renewAt(2, 2, 20, 3)}, n)...)
}

// checkSealed checks the leaves, the root and the archive that is sealed with these stamps.
func checkSealed(t *testing.T, a impl.Archive, method int, stamps []impl.Stamp) {
	t.Helper()
	if got, want := impl.LeavesFor(a, method), leavesSlowly(a, method); !slices.Equal(got, want) {
		t.Errorf("LeavesFor(%v, %d) = %v, want %v", a, method, got, want)
	}
	if got, want := impl.RootFor(a, method), archiveRootSlowly(a, method); got != want {
		t.Errorf("RootFor(%v, %d) = %d, want %d", a, method, got, want)
	}
	want, wantOk := sealedSlowly(a, method, stamps)
	if got, ok := impl.SealArchive(a, method, stamps); ok != wantOk || !same(got, want) {
		t.Errorf("SealArchive(%v, %d, %v) = %v, %t, want %v, %t", a, method, stamps, got, ok, want, wantOk)
	}
}

func TestLeavesAndRoots(t *testing.T) {
	for n := range 19 {
		a := archiveOf(3, upTo(n)...)
		for _, method := range []int{0, 1, 2, 3, 99, -1, 100, math.MinInt, math.MaxInt} {
			checkSealed(t, a, method, nil)
		}
		if got := impl.RootFor(a, 2); (got == -1) != (n < 1 || n > 16) {
			t.Errorf("RootFor of %d items = %d", n, got)
		}
	}
	if len(impl.LeavesFor(impl.Archive{}, 2)) != 0 || impl.RootFor(impl.Archive{Id: 3, Items: []impl.Item{}}, 2) != -1 {
		t.Error("an archive without items has leaves or a root")
	}
	// One item is the root itself.
	one := archiveOf(3, 7)
	leaf := impl.LeafOf(2, docDigestSlowly(2, one.Items[0].Doc), one.Items[0].Strand.Pieces, 0)
	if got := impl.RootFor(one, 2); got != leaf || !slices.Equal(impl.LeavesFor(one, 2), []int{leaf}) {
		t.Errorf("RootFor of one item = %d, want %d", got, leaf)
	}
	// Documents and strands that are not valid have leaves by the formula, a strand that is full too.
	for _, s := range append(someStrands(), counting(3, 1, 1, 1, 1, 2, 2, 3, 3), counting(3, 1, 1, 1, 1, 2, 2, 3, 3, 3)) {
		for _, d := range []impl.Document{threeParts(), {}} {
			x := impl.Item{Id: 4, Doc: d, Strand: s}
			checkSealed(t, impl.Archive{Items: []impl.Item{itemWith(3, 50), x}}, 2, nil)
		}
	}
}

func TestSealArchive(t *testing.T) {
	root := func(a impl.Archive) []impl.Stamp { return stampsBy(46, impl.RootFor(a, 2), 2, 3) }
	for _, a := range someArchives() {
		// Whether the stamps are right is not asked.
		for _, stamps := range [][]impl.Stamp{root(a), nil, {}, stampsBy(46, 7, 2, 3), {root(a)[0], root(a)[0]}, slices.Repeat([]impl.Stamp{{}}, 9)} {
			checkSealed(t, a, 2, stamps)
			checkSealed(t, a, 9, stamps)
		}
	}
	if got, ok := impl.SealArchive(impl.Archive{Id: 3}, 2, stampsBy(46, 7, 2)); ok || !same(got, impl.Archive{Id: 3}) {
		t.Errorf("SealArchive of nothing = %v, %t", got, ok)
	}
	// One item that is full of renewals, or not yet, among others: nothing is half done.
	for n := range 10 {
		for k := range 3 {
			a := archiveOf(3, 2, 5, 9)
			a.Items[k] = oftenRenewed(a.Items[k].Id, n)
			got, ok := impl.SealArchive(a, 2, root(a))
			if ok != (n < 8) || !ok && !same(got, a) {
				t.Errorf("SealArchive where item %d has %d renewals = %v, %t", k, n, got, ok)
			}
			checkSealed(t, a, 2, root(a))
		}
	}
	for _, bad := range badItems() {
		a := archiveOf(3, 2, 5, 9)
		bad.Id = 5
		a.Items[1] = bad
		checkSealed(t, a, 2, root(a))
	}
}

// One root renews an archive: every item is covered by it, and by nothing else than what it has.
func TestOneRootRenewsAnArchive(t *testing.T) {
	for n := 1; n <= impl.MaxItems; n++ {
		a := archiveOf(3, upTo(n)...)
		leaves, root := impl.LeavesFor(a, 2), impl.RootFor(a, 2)
		sealed, ok := impl.SealArchive(a, 2, stampsBy(46, root, 2, 3))
		if !ok || !impl.IsArchive(sealed) || impl.RenewalCount(sealed) != impl.RenewalCount(a)+n {
			t.Fatalf("SealArchive of %d items = %v, %t", n, sealed, ok)
		}
		for i, x := range sealed.Items {
			k := len(x.Strand.Chain) - 1
			r := x.Strand.Chain[k]
			docs := impl.DocDigests(x.Strand, x.Doc)
			if r.Root != root || r.Count != 3 || r.Method != 2 || impl.LeafAt(x.Strand, docs, k) != leaves[i] || impl.FirstFault(centuryKeys, centuryAuthorities, x.Strand, docs) != k+1 {
				t.Errorf("of %d items, item %d was renewed by %v", n, i, r)
			}
			for j, leaf := range leaves {
				if got := impl.CheckRenewal(centuryKeys, centuryAuthorities, r, leaf); got != (i == j) {
					t.Errorf("of %d items, whether the renewal of %d covers %d: %t", n, i, j, got)
				}
			}
			if impl.BoundOf(centuryFrame(90, 0), x.Strand, docs, 0) >= 90 {
				t.Errorf("of %d items, item %d has no bound", n, i)
			}
		}
	}
}

// stampedSlowly tells by the definition alone what StampAll returns.
func stampedSlowly(ids []int, seq int, times []int, digest int) []impl.Stamp {
	stamps := []impl.Stamp{}
	for i := 0; i < len(ids) && i < len(times); i++ {
		if s, ok := stampSlowly(centuryKeys, centuryAuthorities, stamp(ids[i], seq, times[i], digest)); ok {
			stamps = append(stamps, s)
		}
	}
	return stamps
}

func checkStampAll(t *testing.T, ids []int, seq int, times []int, digest int, want ...impl.Stamp) {
	t.Helper()
	if got := impl.StampAll(centuryKeys, centuryAuthorities, ids, seq, times, digest); !slices.Equal(got, want) {
		t.Errorf("StampAll(%v, %d, %v, %d) = %v, want %v", ids, seq, times, digest, got, want)
	}
	if !slices.Equal(stampedSlowly(ids, seq, times, digest), want) {
		t.Errorf("by its definition, StampAll(%v, %d, %v, %d) is another", ids, seq, times, digest)
	}
}

func TestStampAll(t *testing.T) {
	a, b, c := stampBy(1, 4, 20, 7), stampBy(2, 4, 21, 7), stampBy(3, 4, 22, 7)
	checkStampAll(t, nil, 4, nil, 7)
	checkStampAll(t, []int{1, 2, 3}, 4, nil, 7)
	checkStampAll(t, nil, 4, []int{20, 21}, 7)
	checkStampAll(t, []int{1, 2, 3}, 4, []int{20, 21, 22}, 7, a, b, c)
	checkStampAll(t, []int{1, 2, 3}, 4, []int{20}, 7, a)
	checkStampAll(t, []int{1, 2, 3}, 4, []int{20, 21}, 7, a, b)
	checkStampAll(t, []int{1, 2}, 4, []int{20, 21, 22, 23}, 7, a, b)
	// In any order, and twice.
	checkStampAll(t, []int{3, 1, 3}, 4, []int{22, 20, 22}, 7, c, a, c)
	// Of no authority, of one without a key, at no time, with no number: the others keep their times.
	checkStampAll(t, []int{1, 9, 3}, 4, []int{20, 21, 22}, 7, a, c)
	checkStampAll(t, []int{5, -1, 2}, 4, []int{19, 20, 21}, 7, b)
	checkStampAll(t, []int{1, 2, 3}, 4, []int{-1, 21, 10001}, 7, b)
	checkStampAll(t, []int{1, 2, 3}, 4, []int{math.MinInt, math.MaxInt, 22}, 7, c)
	checkStampAll(t, []int{1, 2}, 0, []int{0, 10000}, -1, stampBy(1, 0, 0, -1), stampBy(2, 0, 10000, -1))
	checkStampAll(t, []int{1, 2, 3}, -1, []int{20, 21, 22}, 7)
	checkStampAll(t, []int{1}, math.MaxInt, []int{20}, math.MinInt, stampBy(1, math.MaxInt, 20, math.MinInt))
	if len(impl.StampAll(nil, centuryAuthorities, []int{1}, 4, []int{20}, 7)) != 0 || len(impl.StampAll(centuryKeys, nil, []int{1}, 4, []int{20}, 7)) != 0 {
		t.Error("there are stamps without keys or authorities")
	}
}

func TestRenewalCount(t *testing.T) {
	cases := map[int]impl.Archive{0: {}, 4: archiveOf(3, 2, 5, 7, 9), 8: {Items: []impl.Item{oftenRenewed(2, 3), oftenRenewed(3, 0), oftenRenewed(4, 5)}}, 2: archiveOf(3, 2, 5), 9: {Items: []impl.Item{{}, oftenRenewed(-4, 9)}}}
	for want, a := range cases {
		if got := impl.RenewalCount(a); got != want {
			t.Errorf("RenewalCount(%v) = %d, want %d", a, got, want)
		}
	}
	if got := impl.RenewalCount(archiveOf(3, 7)); got != 0 {
		t.Errorf("RenewalCount of an item without renewals = %d", got)
	}
}

// batchArgs are arguments of functions about the renewal of archives.
type batchArgs struct {
	Frame   impl.Frame
	Archive impl.Archive
	Stamps  []impl.Stamp
	Ids     []int
	Times   []int
}

func TestBatchesLeaveArgumentsAlone(t *testing.T) {
	for _, a := range append(someArchives(), impl.Archive{Items: []impl.Item{itemWith(3, 50), oftenRenewed(4, 8)}}) {
		x := batchArgs{Frame: centuryFrame(90, 0), Archive: a, Stamps: stampsBy(46, impl.RootFor(a, 2), 2, 3), Ids: []int{1, 9, 2}, Times: []int{20, 30, 40}}
		checkMemory(t, "LeavesFor", x, func(x batchArgs) []int { return impl.LeavesFor(x.Archive, 2) })
		checkMemory(t, "RootFor", x, func(x batchArgs) int { return impl.RootFor(x.Archive, 2) + impl.RenewalCount(x.Archive) })
		checkMemory(t, "SealArchive", x, func(x batchArgs) archiveResult {
			got, ok := impl.SealArchive(x.Archive, 2, x.Stamps)
			return archiveResult{got, ok}
		})
		checkMemory(t, "StampAll", x, func(x batchArgs) []impl.Stamp {
			return impl.StampAll(x.Frame.Keys, x.Frame.Authorities, x.Ids, 4, x.Times, 7)
		})
	}
}
