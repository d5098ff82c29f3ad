package tests

import (
	"math"
	"slices"
	"testing"

	"loop.example/g00597/impl"
)

// piecesFor are a signature of d by 11 with the method 2, its certificate, and an answer about it.
func piecesFor(d impl.Document) (impl.Signature, []impl.Piece) {
	x := markedInCentury(signatures, signature(11, 5, 2, docDigestSlowly(2, d), impl.CoAuthor, 0, 0, 0))
	return x, []impl.Piece{impl.SignPiece(x), impl.CertPiece(certOf(5, 11, 1, 0, 60, 1)), impl.StatusPiece(statusOf(5, 29, -1, 1))}
}

// itemWith returns an item with a document of its own and these renewals.
func itemWith(id int, keep int, renewals ...renewed) impl.Item {
	d := document(impl.Mod(id, 1000), []string{"a", "bc"}, 5, 6)
	x, pieces := piecesFor(d)
	return impl.Item{Id: id, Keep: keep, Doc: d, Sig: x, Strand: strandWith(d, pieces, renewals...)}
}

// archiveOf returns an archive with one item for each of the ids, in this order, every second one of them renewed.
func archiveOf(id int, ids ...int) impl.Archive {
	a := impl.Archive{Id: id}
	for i, n := range ids {
		x := itemWith(n, 50+n)
		if i%2 == 1 {
			x = itemWith(n, 50+n, renewAt(3, 2, 28, 1, 2), renewAt(3, 2, 45, 2, 3))
		}
		a.Items = append(a.Items, x)
	}
	return a
}

// upTo returns the numbers from 1 to n.
func upTo(n int) []int {
	l := []int{}
	for i := range n {
		l = append(l, i+1)
	}
	return l
}

// isDocumentSlowly tells by the definition alone what IsDocument returns.
func isDocumentSlowly(d impl.Document) bool {
	for i, part := range d.Parts {
		if len(part) > 40 || i >= len(d.Salts) || d.Salts[i] < 1 || d.Salts[i] > 1000000000000 {
			return false
		}
	}
	return d.Title >= 0 && d.Title <= 999 && len(d.Parts) >= 1 && len(d.Parts) <= 6 && len(d.Salts) == len(d.Parts)
}

// isItemSlowly tells by the definition alone what IsItem returns.
func isItemSlowly(x impl.Item) bool {
	if x.Id < 1 || x.Id > 999 || x.Keep < 0 || x.Keep > 10000 || !isDocumentSlowly(x.Doc) || !isStrandSlowly(x.Strand) {
		return false
	}
	s := x.Sig
	return samePiece(x.Strand.Pieces[0], piece(s.Key, s.Mark, 104, s.Key, s.Serial, s.Method, s.Digest, s.Commit, s.Org, s.Before, s.After))
}

// isArchiveSlowly tells by the definition alone what IsArchive returns.
func isArchiveSlowly(a impl.Archive) bool {
	for i, x := range a.Items {
		if !isItemSlowly(x) || i > 0 && a.Items[i-1].Id >= x.Id {
			return false
		}
	}
	return a.Id >= 0 && a.Id <= 99 && len(a.Items) <= 8
}

// findSlowlyIn returns the index of the first item with this Id, or -1.
func findSlowlyIn(a impl.Archive, id int) int {
	found := -1
	for i := len(a.Items) - 1; i >= 0; i-- {
		if a.Items[i].Id == id {
			found = i
		}
	}
	return found
}

// addedSlowly tells by the definition alone what AddItem returns.
func addedSlowly(a impl.Archive, x impl.Item) (impl.Archive, bool) {
	added := clone(a)
	added.Items = append(added.Items, clone(x))
	slices.SortStableFunc(added.Items, func(x, y impl.Item) int {
		if x.Id < y.Id {
			return -1
		}
		if x.Id > y.Id {
			return 1
		}
		return 0
	})
	if findSlowlyIn(a, x.Id) >= 0 || !isArchiveSlowly(a) || !isArchiveSlowly(added) {
		return clone(a), false
	}
	return added, true
}

// anyDigestSlowly tells by the definition alone what DocDigest returns, also for documents that are not valid.
func anyDigestSlowly(method int, d impl.Document) int {
	if !isDocumentSlowly(d) {
		return -1
	}
	return docDigestSlowly(method, d)
}

// anyDocsSlowly tells by the definition alone what DocDigests returns, also for documents that are not valid.
func anyDocsSlowly(s impl.Strand, d impl.Document) []int {
	docs := []int{}
	for _, r := range s.Chain {
		docs = append(docs, anyDigestSlowly(r.Method, d))
	}
	return docs
}

// judgedItemSlowly tells by the definition alone what JudgeItem returns.
func judgedItemSlowly(f impl.Frame, x impl.Item) impl.Verdict {
	return judgedSlowly(f, evidenceOf(x.Strand), [][]int{anyDocsSlowly(x.Strand, x.Doc)}, anyDigestSlowly(x.Sig.Method, x.Doc), x.Sig)
}

// badItems are not valid, each for one reason.
func badItems() []impl.Item {
	changes := []func(x *impl.Item){
		func(x *impl.Item) { x.Id = 0 }, func(x *impl.Item) { x.Id = 1000 }, func(x *impl.Item) { x.Keep = -1 }, func(x *impl.Item) { x.Keep = 10001 },
		func(x *impl.Item) { x.Doc = impl.Document{} }, func(x *impl.Item) { x.Doc.Title = 1000 }, func(x *impl.Item) { x.Doc.Salts = x.Doc.Salts[:1] },
		func(x *impl.Item) { x.Strand = impl.Strand{} }, func(x *impl.Item) { x.Strand.Pieces = nil }, func(x *impl.Item) { x.Strand.Chain = counting(3, 4).Chain }, func(x *impl.Item) { x.Strand.Pieces = append(x.Strand.Pieces, x.Strand.Pieces[2]) },
		func(x *impl.Item) { x.Strand.Pieces = x.Strand.Pieces[1:] }, func(x *impl.Item) { slices.Reverse(x.Strand.Pieces) }, func(x *impl.Item) { x.Sig.Mark++ }, func(x *impl.Item) { x.Sig.Key++ }, func(x *impl.Item) { x.Sig.Commit++ }, func(x *impl.Item) { x.Sig = impl.Signature{} },
		func(x *impl.Item) { x.Strand.Pieces[0].Mark-- }, func(x *impl.Item) { x.Strand.Pieces[0].Key++ }, func(x *impl.Item) { x.Strand.Pieces[0].Ints[8]++ }, func(x *impl.Item) { x.Strand.Pieces[0].Ints = nil },
		func(x *impl.Item) { _, other := piecesFor(threeParts()); x.Strand.Pieces[0] = other[0] },
	}
	bad := []impl.Item{{}}
	for _, change := range changes {
		x := itemWith(7, 50)
		change(&x)
		bad = append(bad, x)
	}
	return bad
}

// someArchives are valid and not valid.
func someArchives() []impl.Archive {
	all := []impl.Archive{{}, {Id: 99}, archiveOf(3, 7), archiveOf(3, 2, 5, 9), archiveOf(0, upTo(7)...), archiveOf(0, upTo(8)...)}
	all = append(all, impl.Archive{Id: -1}, impl.Archive{Id: 100}, archiveOf(3, upTo(9)...), archiveOf(3, 5, 5), archiveOf(3, 9, 5), archiveOf(3, 2, 9, 5), archiveOf(3, 2, 5, 2, 7))
	return append(all, impl.Archive{Id: 3, Items: badItems()[:3]}, impl.Archive{Id: 3, Items: []impl.Item{itemWith(2, 50), badItems()[14]}})
}

func checkIsItem(t *testing.T, x impl.Item, want bool) {
	t.Helper()
	if got := impl.IsItem(x); got != want {
		t.Errorf("IsItem(%v) = %t", x, got)
	}
	if isItemSlowly(x) != want {
		t.Errorf("by its definition, IsItem(%v) is %t", x, !want)
	}
}

func TestIsItem(t *testing.T) {
	checkFields(t, itemWith(7, 50), impl.IsItem, []field[impl.Item]{
		{"Id", func(x *impl.Item) *int { return &x.Id }, 1, 999}, {"Keep", func(x *impl.Item) *int { return &x.Keep }, 0, 10000},
	})
	for _, x := range badItems() {
		checkIsItem(t, x, false)
	}
	for i, d := range append(slices.Clone(someDocuments), badDocuments...) {
		x := itemWith(7, 50)
		// The signature need not be of the document.
		x.Doc = d
		checkIsItem(t, x, i < len(someDocuments))
	}
	for _, s := range someStrands() {
		x := itemWith(7, 50)
		for _, n := range []int{0, 1} {
			x.Strand = impl.Strand{Pieces: slices.Concat(itemWith(7, 50).Strand.Pieces[:n], s.Pieces), Chain: s.Chain}
			checkIsItem(t, x, n == 1 && isStrandSlowly(x.Strand))
		}
	}
	// Nor need the signature be valid.
	for _, s := range []impl.Signature{{}, signature(0, 5, 2, 3, 1, 0, 0, 0), signature(-5, 1000, -1, -1, 9, 100, -1, -1)} {
		x := itemWith(7, 50)
		x.Sig, x.Strand.Pieces[0] = s, impl.SignPiece(s)
		checkIsItem(t, x, true)
	}
}

func checkIsArchive(t *testing.T, a impl.Archive, want bool) {
	t.Helper()
	if got := impl.IsArchive(a); got != want {
		t.Errorf("IsArchive(%v) = %t", a, got)
	}
	if isArchiveSlowly(a) != want {
		t.Errorf("by its definition, IsArchive(%v) is %t", a, !want)
	}
}

func TestIsArchive(t *testing.T) {
	checkFields(t, archiveOf(3, 2, 5), impl.IsArchive, []field[impl.Archive]{{"Id", func(a *impl.Archive) *int { return &a.Id }, 0, 99}})
	for n := range 11 {
		checkIsArchive(t, archiveOf(3, upTo(n)...), n <= 8)
	}
	for i, a := range someArchives() {
		checkIsArchive(t, a, i < 6)
	}
	for _, bad := range badItems() {
		for i := range 3 {
			a := archiveOf(3, 2, 5, 9)
			id := a.Items[i].Id
			a.Items[i] = bad
			// An Id that would be out of order must not be what makes it one that is not valid.
			if bad.Id == 7 {
				a.Items[i].Id = id
			}
			checkIsArchive(t, a, false)
		}
	}
	checkIsArchive(t, impl.Archive{Id: 3, Items: []impl.Item{}}, true)
	checkIsArchive(t, archiveOf(3, 1, 999), true)
	checkIsArchive(t, archiveOf(3, 5, 6, 6), false)
	checkIsArchive(t, archiveOf(3, 6, 5), false)
}

func TestFindItem(t *testing.T) {
	for _, a := range someArchives() {
		for _, id := range []int{-1, 0, 1, 2, 5, 7, 8, 9, 10, 999, 1000, math.MinInt, math.MaxInt} {
			if got, want := impl.FindItem(a, id), findSlowlyIn(a, id); got != want {
				t.Errorf("FindItem(%v, %d) = %d, want %d", a, id, got, want)
			}
		}
	}
	a := archiveOf(3, 9, 2, 9, 5, 2)
	for id, want := range map[int]int{9: 0, 2: 1, 5: 3, 3: -1, 0: -1, 4: -1} {
		if got := impl.FindItem(a, id); got != want {
			t.Errorf("FindItem of %d = %d, want %d", id, got, want)
		}
	}
}

func checkAdded(t *testing.T, a impl.Archive, x impl.Item) {
	t.Helper()
	want, wantOk := addedSlowly(a, x)
	if got, ok := impl.AddItem(a, x); ok != wantOk || !same(got, want) {
		t.Errorf("AddItem(%v, %v) = %v, %t, want %v, %t", a, x, got, ok, want, wantOk)
	}
}

func TestAddItem(t *testing.T) {
	for _, a := range someArchives() {
		for id := range 11 {
			checkAdded(t, a, itemWith(id, 50))
			checkAdded(t, a, itemWith(id, 51, renewAt(1, 2, 20, 3)))
		}
		for _, bad := range badItems() {
			checkAdded(t, a, bad)
		}
	}
	// In front, between, behind, and into nothing.
	for id, want := range map[int][]int{1: {1, 2, 5, 9}, 3: {2, 3, 5, 9}, 4: {2, 4, 5, 9}, 6: {2, 5, 6, 9}, 10: {2, 5, 9, 10}, 999: {2, 5, 9, 999}} {
		got, ok := impl.AddItem(archiveOf(3, 2, 5, 9), itemWith(id, 50))
		ids := []int{}
		for _, x := range got.Items {
			ids = append(ids, x.Id)
		}
		if !ok || !slices.Equal(ids, want) || got.Id != 3 {
			t.Errorf("after AddItem of %d, there are %v in %d", id, ids, got.Id)
		}
	}
	if got, ok := impl.AddItem(impl.Archive{Id: 4}, itemWith(7, 50)); !ok || !same(got, impl.Archive{Id: 4, Items: []impl.Item{itemWith(7, 50)}}) {
		t.Errorf("AddItem to nothing = %v, %t", got, ok)
	}
	// What is there stays as it is.
	if got, ok := impl.AddItem(archiveOf(3, 2, 5, 9), itemWith(5, 77)); ok || !same(got, archiveOf(3, 2, 5, 9)) {
		t.Errorf("AddItem with an Id that is there = %v, %t", got, ok)
	}
	if got, ok := impl.AddItem(archiveOf(3, upTo(8)...), itemWith(9, 50)); ok || !same(got, archiveOf(3, upTo(8)...)) {
		t.Errorf("AddItem to a full archive = %v, %t", got, ok)
	}
	if got, ok := impl.AddItem(impl.Archive{Id: 100}, itemWith(9, 50)); ok || !same(got, impl.Archive{Id: 100}) {
		t.Errorf("AddItem to an archive that is not valid = %v, %t", got, ok)
	}
	// In an order that is not right, it is not put right.
	if got, ok := impl.AddItem(archiveOf(3, 5, 2), itemWith(9, 50)); ok || !same(got, archiveOf(3, 5, 2)) {
		t.Errorf("AddItem to an archive out of order = %v, %t", got, ok)
	}
}

func TestItemEvidence(t *testing.T) {
	for _, s := range someStrands() {
		x := itemWith(7, 50)
		x.Strand = s
		if got := impl.ItemEvidence(x); !sameEvidence(got, evidenceOf(s)) {
			t.Errorf("ItemEvidence(%v) = %v", x, got)
		}
	}
}

// Items are judged by themselves.
func TestJudgeItem(t *testing.T) {
	renewals := []renewed{renewAt(3, 2, 28, 1, 2, 3), renewAt(3, 2, 45, 2, 3)}
	for _, now := range []int{4, 20, 29, 30, 49, 50, 90, 119, 120, 10001, -1} {
		for n := range 3 {
			x := itemWith(7, 50, renewals[:n]...)
			f := centuryFrame(now, 0)
			want := judgedItemSlowly(f, x)
			if got := impl.JudgeItem(f, x); got != want {
				t.Errorf("now %d, with %d renewals: JudgeItem = %v, want %v", now, n, got, want)
			}
			// What it is called and how long it is kept does not matter.
			x.Id, x.Keep = 0, -1
			if got := impl.JudgeItem(f, x); got != want {
				t.Errorf("now %d, with %d renewals: JudgeItem of another Id = %v, want %v", now, n, got, want)
			}
		}
	}
	f := centuryFrame(90, 0)
	if got := impl.JudgeItem(f, itemWith(7, 50, renewals...)); got != verdict(1, 0, span(5, 28)) {
		t.Errorf("JudgeItem of an item that was renewed = %v", got)
	}
	if got := impl.JudgeItem(f, itemWith(7, 50)); got != verdict(3, 5, span(0, 0)) {
		t.Errorf("JudgeItem of an item that was not renewed = %v", got)
	}
	for i, bad := range badItems() {
		if got, want := impl.JudgeItem(f, bad), judgedItemSlowly(f, bad); got != want {
			t.Errorf("JudgeItem of the bad item %d = %v, want %v", i, got, want)
		}
	}
	other := itemWith(7, 50, renewals...)
	other.Doc, _ = impl.ReplacePart(other.Doc, 0, "another part")
	if got := impl.JudgeItem(f, other); got != verdict(2, 2, span(0, 0)) {
		t.Errorf("JudgeItem of another document = %v", got)
	}
	other = itemWith(7, 50, renewals...)
	other.Sig = itemWith(8, 50).Sig
	if got := impl.JudgeItem(f, other); got != verdict(2, 2, span(0, 0)) {
		t.Errorf("JudgeItem of another signature = %v", got)
	}
}

func TestAddToItem(t *testing.T) {
	answer := impl.StatusPiece(statusOf(5, 40, -1, 1))
	full := archiveOf(3, 2, 5)
	for i := range 9 {
		full.Items[1].Strand.Pieces = append(full.Items[1].Strand.Pieces, piece(i, 5, 103))
	}
	for _, a := range append(someArchives(), full) {
		for _, id := range []int{-1, 0, 1, 2, 5, 7, 9, 999} {
			for _, p := range []impl.Piece{answer, itemWith(5, 50).Strand.Pieces[0], itemWith(5, 50).Strand.Pieces[2], {}} {
				want, i := clone(a), findSlowlyIn(a, id)
				wantOk := i >= 0
				if wantOk {
					want.Items[i].Strand.Pieces = append(want.Items[i].Strand.Pieces, p)
					wantOk = isStrandSlowly(want.Items[i].Strand)
				}
				if !wantOk {
					want = a
				}
				if got, ok := impl.AddToItem(a, id, p); ok != wantOk || !same(got, want) {
					t.Errorf("AddToItem(%v, %d, %v) = %v, %t, want %v, %t", a, id, p, got, ok, want, wantOk)
				}
			}
		}
	}
	a := archiveOf(3, 2, 5, 9)
	got, ok := impl.AddToItem(a, 5, answer)
	if !ok || len(got.Items) != 3 || len(got.Items[1].Strand.Pieces) != 4 || !samePiece(got.Items[1].Strand.Pieces[3], answer) || !impl.IsArchive(got) {
		t.Errorf("AddToItem = %v, %t", got, ok)
	}
	for id, p := range map[int]impl.Piece{5: a.Items[1].Strand.Pieces[2], 4: answer} {
		if got, ok := impl.AddToItem(a, id, p); ok || !same(got, a) {
			t.Errorf("AddToItem to %d of %v = %v, %t", id, p, got, ok)
		}
	}
	if got, ok := impl.AddToItem(full, 5, answer); ok || !same(got, full) {
		t.Errorf("AddToItem to a full strand = %v, %t", got, ok)
	}
}

// archiveChanges change one field each.
var archiveChanges = []func(a *impl.Archive){
	func(a *impl.Archive) { a.Id++ }, func(a *impl.Archive) { a.Items[0].Id-- }, func(a *impl.Archive) { a.Items[2].Id++ }, func(a *impl.Archive) { a.Items[1].Keep++ },
	func(a *impl.Archive) { a.Items[1].Doc.Title++ }, func(a *impl.Archive) { a.Items[1].Doc.Parts[1] += "!" }, func(a *impl.Archive) { a.Items[1].Doc.Salts[0]++ }, func(a *impl.Archive) { a.Items[1].Doc.Parts = a.Items[1].Doc.Parts[:1] },
	func(a *impl.Archive) { a.Items[1].Sig.Key++ }, func(a *impl.Archive) { a.Items[1].Sig.Serial++ }, func(a *impl.Archive) { a.Items[1].Sig.Method++ }, func(a *impl.Archive) { a.Items[1].Sig.Digest++ }, func(a *impl.Archive) { a.Items[1].Sig.Commit++ },
	func(a *impl.Archive) { a.Items[1].Sig.Org++ }, func(a *impl.Archive) { a.Items[1].Sig.Before++ }, func(a *impl.Archive) { a.Items[1].Sig.After++ }, func(a *impl.Archive) { a.Items[1].Sig.Mark++ },
	func(a *impl.Archive) { a.Items[1].Strand.Pieces[2].Mark++ }, func(a *impl.Archive) { a.Items[1].Strand.Pieces = a.Items[1].Strand.Pieces[:2] }, func(a *impl.Archive) { a.Items[1].Strand.Chain[1].Count-- }, func(a *impl.Archive) { a.Items[1].Strand.Chain[0].Stamps[1].Seq++ }, func(a *impl.Archive) { a.Items[1].Strand.Chain = nil },
	func(a *impl.Archive) { a.Items = a.Items[:2] }, func(a *impl.Archive) { a.Items = nil }, func(a *impl.Archive) { slices.Reverse(a.Items) }, func(a *impl.Archive) { a.Items = append(a.Items, impl.Item{}) },
}

func TestEqualArchives(t *testing.T) {
	all := someArchives()
	for i, a := range all {
		for j, b := range all {
			if got := impl.EqualArchives(a, clone(b)); got != (i == j) {
				t.Errorf("EqualArchives(%v, %v) = %t", a, b, got)
			}
		}
	}
	a := archiveOf(3, 2, 5, 9)
	for i, change := range archiveChanges {
		b := clone(a)
		change(&b)
		if impl.EqualArchives(a, b) || impl.EqualArchives(b, a) || !impl.EqualArchives(b, b) {
			t.Errorf("change %d: EqualArchives(%v, %v) = true", i, a, b)
		}
	}
	if !impl.EqualArchives(impl.Archive{}, impl.Archive{Items: []impl.Item{}}) {
		t.Error("nil and empty archives differ")
	}
	empty := impl.Item{Doc: impl.Document{Parts: []string{}, Salts: []int{}}, Strand: impl.Strand{Pieces: []impl.Piece{}, Chain: []impl.Renewal{}}}
	if !impl.EqualArchives(impl.Archive{Items: []impl.Item{{}}}, impl.Archive{Items: []impl.Item{empty}}) {
		t.Error("nil and empty lists of an item differ")
	}
}

// archiveArgs are arguments of functions about archives.
type archiveArgs struct {
	Frame   impl.Frame
	Archive impl.Archive
	Item    impl.Item
	Piece   impl.Piece
	Ids     []int
}

// archiveResult is an archive and whether something succeeded.
type archiveResult struct {
	Archive impl.Archive
	Ok      bool
}

func TestArchivesLeaveArgumentsAlone(t *testing.T) {
	for _, a := range append(someArchives(), archiveOf(3, 2, 5, 9)) {
		for _, id := range []int{2, 3, 5} {
			x := archiveArgs{Frame: centuryFrame(90, 0), Archive: a, Item: itemWith(id, 50, renewAt(3, 2, 28, 1, 2)), Piece: impl.StatusPiece(statusOf(5, 40, -1, 1))}
			checkMemory(t, "AddItem", x, func(x archiveArgs) archiveResult {
				got, ok := impl.AddItem(x.Archive, x.Item)
				return archiveResult{got, ok}
			})
			checkMemory(t, "AddToItem", x, func(x archiveArgs) archiveResult {
				got, ok := impl.AddToItem(x.Archive, id, x.Piece)
				return archiveResult{got, ok}
			})
			checkMemory(t, "ItemEvidence", x, func(x archiveArgs) impl.Evidence { return impl.ItemEvidence(x.Item) })
			checkMemory(t, "JudgeItem", x, func(x archiveArgs) impl.Verdict { return impl.JudgeItem(x.Frame, x.Item) })
			checkMemory(t, "archives", x, func(x archiveArgs) bool {
				return impl.IsArchive(x.Archive) || impl.IsItem(x.Item) || impl.FindItem(x.Archive, id) > 0 || impl.EqualArchives(x.Archive, x.Archive)
			})
		}
	}
}
