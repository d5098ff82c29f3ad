package tests

import (
	"math"
	"slices"
	"testing"

	"loop.example/g00597/impl"
)

// itemDigestSlowly tells by the definition alone what ItemDigest returns.
func itemDigestSlowly(method int, x impl.Item) int {
	l := []int{5, x.Id, x.Keep, anyDigestSlowly(method, x.Doc), piecesDigestSlowly(method, x.Strand.Pieces)}
	for _, r := range x.Strand.Chain {
		l = append(l, renewalDigestSlowly(method, r))
	}
	return digestSlowly(method, l...)
}

// itemsRootSlowly tells by the definition alone what the Digest of a parcel is.
func itemsRootSlowly(method int, items []impl.Item) int {
	digests := []int{}
	for _, x := range items {
		digests = append(digests, itemDigestSlowly(method, x))
	}
	if len(digests) < 1 || len(digests) > 16 {
		return -1
	}
	return rootSlowly(method, digests)
}

// packedSlowly tells by the definition alone what MakeParcel returns.
func packedSlowly(a impl.Archive, to int, ids []int, method int) (impl.Parcel, bool) {
	p := impl.Parcel{From: a.Id, To: to}
	for _, id := range ids {
		i := findSlowlyIn(a, id)
		if i < 0 {
			return impl.Parcel{}, false
		}
		p.Items = append(p.Items, clone(a.Items[i]))
	}
	if len(ids) == 0 {
		return impl.Parcel{}, false
	}
	p.Digest = itemsRootSlowly(method, p.Items)
	return p, true
}

// isParcelSlowly tells by the definition alone what CheckParcel returns.
func isParcelSlowly(p impl.Parcel, method int) bool {
	n := len(p.Items)
	return n >= 1 && n <= 8 && !slices.ContainsFunc(p.Items, func(x impl.Item) bool { return !isItemSlowly(x) }) && p.Digest == itemsRootSlowly(method, p.Items)
}

// acceptedSlowly tells by the definition alone what AcceptParcel returns.
func acceptedSlowly(a impl.Archive, p impl.Parcel, method int) (impl.Archive, bool) {
	got := clone(a)
	ok := isParcelSlowly(p, method) && p.To == a.Id
	for _, x := range p.Items {
		var added bool
		got, added = addedSlowly(got, x)
		ok = ok && added
	}
	if !ok {
		return clone(a), false
	}
	return got, true
}

// movedSlowly tells by the definition alone what MoveItems returns.
func movedSlowly(a impl.Archive, b impl.Archive, ids []int, method int) (impl.Archive, impl.Archive, bool) {
	p, packed := packedSlowly(a, b.Id, ids, method)
	to, accepted := acceptedSlowly(b, p, method)
	if !packed || !accepted {
		return clone(a), clone(b), false
	}
	from := clone(a)
	for _, id := range ids {
		i := findSlowlyIn(from, id)
		from.Items = slices.Delete(from.Items, i, i+1)
	}
	return from, to, true
}

func TestItemDigest(t *testing.T) {
	for _, method := range []int{0, 1, 2, 99, -1, math.MaxInt} {
		for _, a := range someArchives() {
			for _, x := range a.Items {
				if got, want := impl.ItemDigest(method, x), itemDigestSlowly(method, x); got != want {
					t.Errorf("ItemDigest(%d, %v) = %d, want %d", method, x, got, want)
				}
			}
		}
	}
	x := archiveOf(3, 2, 5).Items[1]
	for i, change := range []func(x *impl.Item){
		func(x *impl.Item) { x.Id++ }, func(x *impl.Item) { x.Keep++ }, func(x *impl.Item) { x.Doc.Title++ }, func(x *impl.Item) { x.Doc.Parts[0] = "b" }, func(x *impl.Item) { x.Doc.Salts[1]++ }, func(x *impl.Item) { x.Doc = impl.Document{} },
		func(x *impl.Item) { x.Strand.Pieces[0].Mark++ }, func(x *impl.Item) { x.Strand.Pieces[2].Ints[3]++ }, func(x *impl.Item) { x.Strand.Pieces[1].Key++ }, func(x *impl.Item) { x.Strand.Pieces = x.Strand.Pieces[:2] }, func(x *impl.Item) { slices.Reverse(x.Strand.Pieces) },
		func(x *impl.Item) { x.Strand.Chain = x.Strand.Chain[:1] }, func(x *impl.Item) { x.Strand.Chain = nil }, func(x *impl.Item) { slices.Reverse(x.Strand.Chain) }, func(x *impl.Item) { x.Strand.Chain[0].Count-- }, func(x *impl.Item) { x.Strand.Chain[1].Root++ }, func(x *impl.Item) { x.Strand.Chain[1].Stamps[0].Time++ },
	} {
		y := clone(x)
		change(&y)
		if impl.ItemDigest(2, y) == impl.ItemDigest(2, x) {
			t.Errorf("change %d: the digest stays", i)
		}
	}
	// The signature is told by the first piece only.
	y := clone(x)
	y.Sig.Mark++
	if impl.ItemDigest(2, y) != impl.ItemDigest(2, x) || impl.ItemDigest(3, x) == impl.ItemDigest(2, x) {
		t.Error("the digest with another signature, or by another method")
	}
}

func checkPacked(t *testing.T, a impl.Archive, to int, ids []int, method int, wantOk bool) impl.Parcel {
	t.Helper()
	want, ok := packedSlowly(a, to, ids, method)
	if ok != wantOk {
		t.Errorf("by its definition, MakeParcel(%v, %d, %v, %d) is %t", a, to, ids, method, ok)
	}
	got, ok := impl.MakeParcel(a, to, ids, method)
	if ok != wantOk || !same(got, want) {
		t.Errorf("MakeParcel(%v, %d, %v, %d) = %v, %t, want %v", a, to, ids, method, got, ok, want)
	}
	return got
}

func checkParcel(t *testing.T, p impl.Parcel, method int, want bool) {
	t.Helper()
	if got := impl.CheckParcel(p, method); got != want {
		t.Errorf("CheckParcel(%v, %d) = %t", p, method, got)
	}
	if isParcelSlowly(p, method) != want {
		t.Errorf("by its definition, CheckParcel(%v, %d) is %t", p, method, !want)
	}
}

func TestMakeParcel(t *testing.T) {
	a := archiveOf(3, 2, 5, 9)
	for _, ids := range [][]int{{2}, {5}, {9}, {2, 5}, {9, 2}, {9, 5, 2}} {
		for _, to := range []int{4, 3, -1, 100} {
			checkParcel(t, checkPacked(t, a, to, ids, 2, true), 2, true)
		}
	}
	if p := checkPacked(t, a, 4, []int{9, 2}, 2, true); p.From != 3 || p.To != 4 || p.Items[0].Id != 9 || p.Items[1].Id != 2 {
		t.Errorf("the parcel %v", p)
	}
	for _, ids := range [][]int{nil, {}, {3}, {0}, {2, 3}, {3, 2}, {2, 5, 9, 10}, {-1}, {math.MinInt}, {math.MaxInt}} {
		checkPacked(t, a, 4, ids, 2, false)
		checkPacked(t, impl.Archive{Id: 3}, 4, ids, 2, false)
	}
	// One item twice is twice in the parcel.
	if p := checkPacked(t, a, 4, []int{5, 2, 5}, 2, true); len(p.Items) != 3 || p.Items[0].Id != 5 || p.Items[2].Id != 5 {
		t.Errorf("the parcel with one item twice is %v", p)
	}
	// Neither the number of items nor whether they are valid is asked.
	for _, n := range []int{8, 9, 16, 17, 30} {
		if p := checkPacked(t, a, 4, slices.Repeat([]int{5}, n), 2, true); (p.Digest == -1) != (n > 16) {
			t.Errorf("the Digest of %d items is %d", n, p.Digest)
		}
	}
	for _, bad := range someArchives() {
		ids := idsOf(bad)
		checkPacked(t, bad, 4, ids, 2, len(ids) > 0)
	}
	checkPacked(t, archiveOf(3, 5, 2, 5), 4, []int{5}, 2, true)
	checkPacked(t, a, 4, []int{5}, -9, true)
}

func TestCheckParcel(t *testing.T) {
	a := archiveOf(3, 2, 5, 9)
	p := checkPacked(t, a, 4, []int{9, 2}, 2, true)
	for _, method := range []int{0, 1, 3, -1} {
		checkParcel(t, p, method, false)
	}
	for i, change := range []func(p *impl.Parcel){
		func(p *impl.Parcel) { p.Digest++ }, func(p *impl.Parcel) { p.Digest-- }, func(p *impl.Parcel) { p.Digest = -1 }, func(p *impl.Parcel) { p.Items = p.Items[:1] }, func(p *impl.Parcel) { p.Items = nil }, func(p *impl.Parcel) { slices.Reverse(p.Items) },
		func(p *impl.Parcel) { p.Items[0].Id++ }, func(p *impl.Parcel) { p.Items[1].Keep++ }, func(p *impl.Parcel) { p.Items[0].Doc.Parts[0] = "b" }, func(p *impl.Parcel) { p.Items[1].Strand.Pieces = p.Items[1].Strand.Pieces[:2] }, func(p *impl.Parcel) { p.Items = append(p.Items, p.Items[1]) },
	} {
		bad := clone(p)
		change(&bad)
		if impl.CheckParcel(bad, 2) || isParcelSlowly(bad, 2) {
			t.Errorf("change %d: the parcel %v checks", i, bad)
		}
	}
	// From and To are not in the digest.
	other := clone(p)
	other.From, other.To = -5, 77
	checkParcel(t, other, 2, true)
	with := func(items ...impl.Item) impl.Parcel {
		return impl.Parcel{Items: items, Digest: itemsRootSlowly(2, items)}
	}
	checkParcel(t, with(), 2, false)
	checkParcel(t, impl.Parcel{}, 2, false)
	for n := 1; n < 20; n++ {
		checkParcel(t, with(slices.Repeat([]impl.Item{itemWith(5, 50)}, n)...), 2, n <= 8)
		checkParcel(t, with(archiveOf(3, upTo(n)...).Items...), 2, n <= 8)
	}
	for _, bad := range badItems() {
		checkParcel(t, with(bad), 2, false)
		checkParcel(t, with(bad, itemWith(5, 50)), 2, false)
		checkParcel(t, with(itemWith(5, 50), itemWith(6, 50), bad), 2, false)
	}
}

func checkAccepted(t *testing.T, a impl.Archive, p impl.Parcel, method int, wantOk bool) impl.Archive {
	t.Helper()
	want, ok := acceptedSlowly(a, p, method)
	if ok != wantOk {
		t.Errorf("by its definition, AcceptParcel(%v, %v, %d) is %t", a, p, method, ok)
	}
	got, ok := impl.AcceptParcel(a, p, method)
	if ok != wantOk || !same(got, want) {
		t.Errorf("AcceptParcel(%v, %v, %d) = %v, %t, want %v", a, p, method, got, ok, want)
	}
	return got
}

func TestAcceptParcel(t *testing.T) {
	a := archiveOf(3, 2, 5, 9)
	p := checkPacked(t, a, 4, []int{9, 2}, 2, true)
	if got := checkAccepted(t, archiveOf(4, 1, 5, 10), p, 2, true); !slices.Equal(idsOf(got), []int{1, 2, 5, 9, 10}) {
		t.Errorf("after the parcel, there are %v", idsOf(got))
	}
	checkAccepted(t, impl.Archive{Id: 4}, p, 2, true)
	for _, id := range []int{3, 5, 0, -4} {
		checkAccepted(t, impl.Archive{Id: id}, p, 2, false)
	}
	checkAccepted(t, impl.Archive{Id: 4}, p, 3, false)
	changed := clone(p)
	changed.Digest++
	checkAccepted(t, impl.Archive{Id: 4}, changed, 2, false)
	checkAccepted(t, impl.Archive{Id: 4}, impl.Parcel{To: 4, Digest: -1}, 2, false)
	// The first or the last one cannot be added, but the other one can: nothing is half done.
	checkAccepted(t, archiveOf(4, 2), p, 2, false)
	checkAccepted(t, archiveOf(4, 9), p, 2, false)
	checkAccepted(t, archiveOf(4, 3, 4, 5, 6, 7, 8), p, 2, true)
	checkAccepted(t, archiveOf(4, 1, 3, 4, 5, 6, 7, 8), p, 2, false)
	checkAccepted(t, archiveOf(4, upTo(8)...), p, 2, false)
	// Archives that are not valid accept nothing.
	checkAccepted(t, archiveOf(4, 7, 6), p, 2, false)
	over := checkPacked(t, a, 100, []int{9}, 2, true)
	checkAccepted(t, impl.Archive{Id: 100}, over, 2, false)
	// One item twice is not accepted, although the parcel checks.
	twice := checkPacked(t, a, 4, []int{5, 5}, 2, true)
	checkParcel(t, twice, 2, true)
	checkAccepted(t, impl.Archive{Id: 4}, twice, 2, false)
}

func checkMoved(t *testing.T, a impl.Archive, b impl.Archive, ids []int, method int, wantOk bool) {
	t.Helper()
	from, to, ok := movedSlowly(a, b, ids, method)
	if ok != wantOk {
		t.Errorf("by its definition, MoveItems(%v, %v, %v, %d) is %t", a, b, ids, method, ok)
	}
	x, y, ok := impl.MoveItems(a, b, ids, method)
	if ok != wantOk || !same(x, from) || !same(y, to) {
		t.Errorf("MoveItems(%v, %v, %v, %d) = %v, %v, %t, want %v, %v", a, b, ids, method, x, y, ok, from, to)
	}
	// Transfers lose nothing.
	if len(x.Items)+len(y.Items) != len(a.Items)+len(b.Items) {
		t.Errorf("MoveItems(%v, %v, %v) loses something", a, b, ids)
	}
}

func TestMoveItems(t *testing.T) {
	a, b := archiveOf(3, 2, 5, 9), archiveOf(4, 1, 6)
	for _, ids := range [][]int{{2}, {5}, {9}, {9, 2}, {2, 5, 9}, {5, 9, 2}} {
		checkMoved(t, a, b, ids, 2, true)
		checkMoved(t, a, impl.Archive{Id: 4}, ids, 9, true)
		// To another archive with the same Id.
		checkMoved(t, a, archiveOf(3, 1, 6), ids, 2, true)
		checkMoved(t, a, impl.Archive{Id: 3}, ids, 2, true)
		checkMoved(t, a, a, ids, 2, false)
	}
	for _, ids := range [][]int{nil, {}, {1}, {6}, {2, 3}, {2, 2}, {2, 5, 2}, {-1}} {
		checkMoved(t, a, b, ids, 2, false)
	}
	for _, other := range someArchives() {
		checkMoved(t, a, other, []int{5, 9}, 2, impl.IsArchive(other) && findSlowlyIn(other, 5) < 0 && findSlowlyIn(other, 9) < 0 && len(other.Items) <= 6)
		_, _, ok := movedSlowly(other, b, []int{7}, 2)
		checkMoved(t, other, b, []int{7}, 2, ok)
	}
	// The archive that it comes from need not be valid: of two with one Id, the first one goes.
	checkMoved(t, archiveOf(-7, 9, 5, 2, 5), b, []int{5}, 2, true)
	// The verdict stays the same.
	from, to, _ := impl.MoveItems(a, b, []int{5}, 2)
	if impl.JudgeItem(centuryFrame(90, 0), to.Items[1]) != impl.JudgeItem(centuryFrame(90, 0), a.Items[1]) || impl.FindItem(from, 5) != -1 {
		t.Errorf("the item that was moved is %v", to.Items[1])
	}
}

// transferArgs are arguments of functions about transfers.
type transferArgs struct {
	A, B   impl.Archive
	Parcel impl.Parcel
	Ids    []int
}

// moveResult is what MoveItems returns.
type moveResult struct {
	A, B impl.Archive
	Ok   bool
}

func TestTransfersLeaveArgumentsAlone(t *testing.T) {
	a := archiveOf(3, 2, 5, 9)
	for _, ids := range [][]int{{5}, {9, 2}, {5, 5}, {2, 77}, nil} {
		for _, b := range []impl.Archive{{Id: 4}, archiveOf(4, 1, 6), archiveOf(4, 2), archiveOf(4, upTo(8)...)} {
			p, _ := impl.MakeParcel(a, 4, ids, 2)
			x := transferArgs{A: a, B: b, Parcel: p, Ids: ids}
			checkMemory(t, "MakeParcel", x, func(x transferArgs) impl.Parcel {
				p, _ := impl.MakeParcel(x.A, 4, x.Ids, 2)
				return p
			})
			checkMemory(t, "AcceptParcel", x, func(x transferArgs) archiveResult {
				got, ok := impl.AcceptParcel(x.B, x.Parcel, 2)
				return archiveResult{got, ok}
			})
			checkMemory(t, "MoveItems", x, func(x transferArgs) moveResult {
				from, to, ok := impl.MoveItems(x.A, x.B, x.Ids, 2)
				return moveResult{from, to, ok}
			})
			checkMemory(t, "CheckParcel", x, func(x transferArgs) bool {
				return impl.CheckParcel(x.Parcel, 2) || impl.ItemDigest(2, x.A.Items[0]) < 0
			})
		}
	}
}
