package tests

import (
	"cmp"
	"math"
	"slices"
	"testing"

	"loop.example/g00597/impl"
)

// sameEvidence compares without the program's help.
func sameEvidence(a impl.Evidence, b impl.Evidence) bool {
	return slices.EqualFunc(a.Strands, b.Strands, sameStrand) && slices.EqualFunc(a.Fresh, b.Fresh, slices.Equal[[]impl.Stamp])
}

func copyEvidence(e impl.Evidence) impl.Evidence {
	return impl.Evidence{Strands: mapped(e.Strands, copyStrand), Fresh: mapped(e.Fresh, slices.Clone[[]impl.Stamp])}
}

// spareEvidence returns e with room behind all of its lists.
func spareEvidence(e impl.Evidence) impl.Evidence {
	spareStamps := func(l []impl.Stamp) []impl.Stamp { return spareOf(l, stamp(-7, -7, -7, -7)) }
	return impl.Evidence{
		Strands: spareOf(mapped(e.Strands, spareStrand), impl.Strand{Pieces: []impl.Piece{{Key: -7}}}),
		Fresh:   spareOf(mapped(e.Fresh, spareStamps), []impl.Stamp{{Seq: -7}}),
	}
}

// wholeEvidence returns a copy of e with what is behind the ends of its lists as well.
func wholeEvidence(e impl.Evidence) impl.Evidence {
	wholeStamps := func(l []impl.Stamp) []impl.Stamp { return slices.Clone(l[:cap(l)]) }
	return impl.Evidence{Strands: mapped(e.Strands[:cap(e.Strands)], wholeStrand), Fresh: mapped(e.Fresh[:cap(e.Fresh)], wholeStamps)}
}

// wipeEvidence overwrites all memory of e.
func wipeEvidence(e impl.Evidence) {
	for _, s := range e.Strands {
		wipeStrand(s)
	}
	for _, l := range e.Fresh {
		fill(l, stamp(-99, -99, -99, -99))
	}
	fill(e.Strands, impl.Strand{Pieces: []impl.Piece{{Key: -99}}})
	fill(e.Fresh, []impl.Stamp{{Seq: -99}})
}

// checkEvidenceUnchanged checks that no call writes into the memory of e.
func checkEvidenceUnchanged(t *testing.T, name string, e impl.Evidence, calls ...func()) {
	t.Helper()
	before := wholeEvidence(e)
	for i, call := range calls {
		call()
		if !sameEvidence(before, wholeEvidence(e)) {
			t.Fatalf("call %d of %s writes into the evidence, or returns memory that it shares", i, name)
		}
	}
}

// pieceHoldsSlowly tells by the definition alone what CheckPiece returns.
func pieceHoldsSlowly(keys []impl.Key, p impl.Piece) bool {
	if len(p.Ints) == 0 || len(p.Ints) != pieceLengths[p.Ints[0]] {
		return false
	}
	// Where the key of each kind stands; a stamp does not have it.
	places := map[int]int{101: 6, 102: 4, 104: 1, 105: 5}
	if place, ok := places[p.Ints[0]]; ok && p.Ints[place] != p.Key {
		return false
	}
	k, i := keySlowly(keys, p.Key)
	return i >= 0 && markSlowly(k, p.Ints) == p.Mark
}

func evidenceBoundSlowly(f impl.Frame, e impl.Evidence, docs [][]int, p impl.Piece) int {
	bound := f.Now
	for i := 0; i < len(e.Strands) && i < len(docs); i++ {
		bound = min(bound, pieceBoundSlowly(f, e.Strands[i], docs[i], p))
	}
	return bound
}

// usableSlowly tells by the definition alone what UsablePieces returns.
func usableSlowly(f impl.Frame, e impl.Evidence, docs [][]int) []impl.Piece {
	usable := []impl.Piece{}
	for _, s := range e.Strands {
		for _, p := range s.Pieces {
			k, _ := keySlowly(f.Keys, p.Key)
			isThere := slices.ContainsFunc(usable, func(other impl.Piece) bool { return samePiece(other, p) })
			if !isThere && pieceHoldsSlowly(f.Keys, p) && evidenceBoundSlowly(f, e, docs, p) < breakSlowly(f.Methods, k.Method) {
				usable = append(usable, p)
			}
		}
	}
	slices.SortFunc(usable, func(a, b impl.Piece) int {
		return cmp.Or(slices.Compare(a.Ints, b.Ints), a.Key-b.Key, a.Mark-b.Mark)
	})
	return usable
}

// joinedSlowly tells by the definition alone what JoinEvidence returns.
func joinedSlowly(a impl.Evidence, b impl.Evidence) impl.Evidence {
	joined := copyEvidence(a)
	for _, s := range b.Strands {
		if !slices.ContainsFunc(joined.Strands, func(other impl.Strand) bool { return sameStrand(other, s) }) {
			joined.Strands = append(joined.Strands, copyStrand(s))
		}
	}
	for _, l := range b.Fresh {
		if !slices.ContainsFunc(joined.Fresh, func(other []impl.Stamp) bool { return slices.Equal(other, l) }) {
			joined.Fresh = append(joined.Fresh, slices.Clone(l))
		}
	}
	return joined
}

// freshSlowly tells by the definition alone what FreshFrom returns.
func freshSlowly(f impl.Frame, e impl.Evidence, usable []impl.Piece, x impl.Signature) int {
	k, _ := keySlowly(f.Keys, x.Key)
	from := k.Born
lists:
	for _, l := range e.Fresh {
		marks := []int{}
		for i, s := range l {
			a, _ := authoritySlowly(f.Authorities, s.Authority)
			p := piece(a.Key, s.Mark, stampIntsSlowly(s)...)
			if i > 0 && l[i-1].Authority >= s.Authority || !slices.ContainsFunc(usable, func(other impl.Piece) bool { return samePiece(other, p) }) {
				continue lists
			}
			marks = append(marks, s.Mark)
		}
		made, ok := agreedStampsSlowly(f.Authorities, l, f.Liars)
		if ok && x.After != 0 && max(1, digestSlowly(x.Method, marks...)) == x.After {
			from = max(from, made.From)
		}
	}
	return from
}

// keptPieces are a signature by 11, its certificate and an answer about it.
func keptPieces(after int) []impl.Piece {
	return []impl.Piece{
		impl.SignPiece(signedOf(11, 2, 0, after)), impl.CertPiece(certOf(5, 11, 1, 0, 60, 1)), impl.StatusPiece(statusOf(5, 29, -1, 1)),
	}
}

// keptStrand has keptPieces and was renewed before and after the break of 1.
func keptStrand(after int) impl.Strand {
	return strandWith(threeParts(), keptPieces(after), renewAt(3, 2, 28, 1, 2, 3), renewAt(3, 2, 45, 2, 3))
}

// freshList is a list of stamps that agree on the time 10, and freshPieces are the pieces of these.
var (
	freshList   = []impl.Stamp{stampBy(2, 1, 9, 5), stampBy(3, 2, 10, 5)}
	freshPieces = []impl.Piece{impl.StampPiece(32, freshList[0]), impl.StampPiece(33, freshList[1])}
)

// someEvidence: none, strands with and without renewals, some of them twice, and lists of stamps.
func someEvidence() []impl.Evidence {
	other, _ := impl.ReplacePart(threeParts(), 0, "another part")
	bare := impl.Strand{Pieces: keptPieces(0)}
	stamped := impl.Strand{Pieces: append(slices.Clone(freshPieces), keptPieces(0)[2])}
	return []impl.Evidence{
		{}, evidenceOf(keptStrand(0)), evidenceOf(bare), evidenceOf(keptStrand(0), bare), evidenceOf(bare, keptStrand(0), bare), evidenceOf(strandWith(other, keptPieces(0), renewAt(3, 2, 28, 2, 3))),
		{Strands: []impl.Strand{stamped, keptStrand(0)}, Fresh: [][]impl.Stamp{freshList}}, {Fresh: [][]impl.Stamp{freshList, {}, freshList[:1], freshList}},
		{Strands: someStrands(), Fresh: [][]impl.Stamp{nil}}, evidenceOf(impl.Strand{}), {Fresh: [][]impl.Stamp{nil}}, {Fresh: [][]impl.Stamp{nil, {}}},
	}
}

func TestAllDigests(t *testing.T) {
	for _, e := range someEvidence() {
		for _, d := range []impl.Document{threeParts(), someDocuments[0]} {
			if got := impl.AllDocDigests(e, d); !slices.EqualFunc(got, allDocsSlowly(e, d), slices.Equal[[]int]) {
				t.Errorf("AllDocDigests(%v, %v) = %v", e, d, got)
			}
			for i, l := range impl.AllDocDigests(e, impl.Document{}) {
				if !slices.Equal(l, slices.Repeat([]int{-1}, len(e.Strands[i].Chain))) {
					t.Errorf("the digests of a document that is not valid for %v are %v", e.Strands[i], l)
				}
			}
			for _, r := range []impl.Redacted{redacted([]int{1, 2}, d, 0), redacted([]int{2}, d), {}} {
				got := impl.AllRedactedDigests(e, r)
				if len(got) != len(e.Strands) {
					t.Fatalf("AllRedactedDigests(%v, %v) = %v", e, r, got)
				}
				for i, s := range e.Strands {
					if !slices.Equal(got[i], impl.RedactedDigests(s, r)) {
						t.Errorf("AllRedactedDigests(%v, %v) = %v", e, r, got)
					}
				}
			}
		}
	}
}

// checkEvidence checks the bounds and the usable pieces, with the digests of threeParts for all strands, for some, and for more than there are.
func checkEvidence(t *testing.T, f impl.Frame, e impl.Evidence) {
	t.Helper()
	all := allDocsSlowly(e, threeParts())
	for _, docs := range [][][]int{all, nil, all[:len(all)/2], append(slices.Clone(all), []int{1}, nil), slices.Repeat([][]int{nil}, len(all))} {
		for _, s := range append(slices.Clone(e.Strands), impl.Strand{Pieces: []impl.Piece{{}}}) {
			for _, p := range s.Pieces {
				if got, want := impl.EvidenceBound(f, e, docs, p), evidenceBoundSlowly(f, e, docs, p); got != want {
					t.Errorf("EvidenceBound(%v, %v, %v, %v) = %d, want %d", f, e, docs, p, got, want)
				}
			}
		}
		if got, want := impl.UsablePieces(f, e, docs), usableSlowly(f, e, docs); !slices.EqualFunc(got, want, samePiece) {
			t.Errorf("UsablePieces(%v, %v, %v) = %v, want %v", f, e, docs, got, want)
		}
	}
}

func TestEvidenceBound(t *testing.T) {
	f := centuryFrame(90, 0)
	early, late := strandWith(threeParts(), numbered(2), renewAt(1, 2, 30, 3)), strandWith(threeParts(), numbered(3), renewAt(3, 2, 40, 3))
	p := numbered(4)
	cases := []struct {
		e    impl.Evidence
		n    int
		want []int
	}{
		{evidenceOf(), 0, []int{90, 90, 90, 90}}, {evidenceOf(early), 1, []int{30, 90, 90, 90}}, {evidenceOf(late), 1, []int{40, 40, 40, 90}},
		{evidenceOf(early, late), 2, []int{30, 40, 40, 90}}, {evidenceOf(late, early), 2, []int{30, 40, 40, 90}}, {evidenceOf(late, early, late), 3, []int{30, 40, 40, 90}},
		// Strands without digests of the document do not count.
		{evidenceOf(early, late), 1, []int{30, 90, 90, 90}}, {evidenceOf(late, early), 1, []int{40, 40, 40, 90}}, {evidenceOf(early, late), 0, []int{90, 90, 90, 90}},
	}
	for _, c := range cases {
		docs := allDocsSlowly(c.e, threeParts())[:c.n]
		for i, want := range c.want {
			if got := impl.EvidenceBound(f, c.e, docs, p[i]); got != want {
				t.Errorf("EvidenceBound(%v, %d) = %d, want %d", c.e, i, got, want)
			}
			if got := impl.EvidenceBound(f, c.e, append(slices.Clone(docs), []int{7}, []int{8}, nil, nil)[:c.n], p[i]); got != want {
				t.Errorf("EvidenceBound(%v, %d) = %d, want %d", c.e, i, got, want)
			}
		}
	}
	// Digests beyond the strands do not matter.
	longer := append(allDocsSlowly(evidenceOf(early), threeParts()), []int{7}, nil)
	if got := impl.EvidenceBound(f, evidenceOf(early), longer, p[0]); got != 30 {
		t.Errorf("EvidenceBound with too many digests = %d", got)
	}
	// No element of docs is not an empty one, which fits no strand with renewals.
	if got := impl.EvidenceBound(f, evidenceOf(early, late), [][]int{nil, docsSlowly(late, threeParts())}, p[0]); got != 40 {
		t.Errorf("EvidenceBound with an empty list of digests = %d", got)
	}
}

func checkUsable(t *testing.T, f impl.Frame, e impl.Evidence, want ...impl.Piece) {
	t.Helper()
	if got := impl.UsablePieces(f, e, allDocsSlowly(e, threeParts())); !slices.EqualFunc(got, want, samePiece) {
		t.Errorf("UsablePieces(%v, %v) = %v, want %v", f, e, got, want)
	}
	checkEvidence(t, f, e)
}

func TestUsablePieces(t *testing.T) {
	sign, cert, answer := keptPieces(0)[0], keptPieces(0)[1], keptPieces(0)[2]
	f := centuryFrame(90, 0)
	checkUsable(t, f, evidenceOf())
	checkUsable(t, f, evidenceOf(impl.Strand{}))
	checkUsable(t, f, evidenceOf(keptStrand(0)), cert, answer, sign)
	checkUsable(t, f, evidenceOf(keptStrand(0), keptStrand(0)), cert, answer, sign)
	// The method of the signature's key is broken at 50, and that of the issuer at 120.
	bare := evidenceOf(impl.Strand{Pieces: keptPieces(0)})
	checkUsable(t, centuryFrame(49, 0), bare, cert, answer, sign)
	checkUsable(t, centuryFrame(50, 0), bare, cert, answer)
	checkUsable(t, centuryFrame(51, 0), bare, cert, answer)
	checkUsable(t, centuryFrame(119, 0), bare, cert, answer)
	checkUsable(t, centuryFrame(120, 0), bare)
	for time, want := range map[int][]impl.Piece{48: {cert, answer, sign}, 49: {cert, answer, sign}, 50: {cert, answer}, 51: {cert, answer}} {
		checkUsable(t, centuryFrame(119, 0), evidenceOf(strandWith(threeParts(), keptPieces(0), renewAt(3, 2, time, 3))), want...)
	}
	checkUsable(t, centuryFrame(9000, 0), evidenceOf(strandWith(threeParts(), keptPieces(0), renewAt(3, 3, 110, 4))), cert, answer)
	checkUsable(t, centuryFrame(9000, 0), evidenceOf(strandWith(threeParts(), keptPieces(0), renewAt(3, 3, 115, 4))))
	// What one strand does not prove, another one does.
	checkUsable(t, f, evidenceOf(impl.Strand{Pieces: keptPieces(0)[:2]}, keptStrand(0)), cert, answer, sign)
	checkUsable(t, f, evidenceOf(impl.Strand{Pieces: keptPieces(0)}, strandWith(threeParts(), keptPieces(0)[:1], renewAt(1, 2, 20, 3))), cert, answer, sign)
	// Pieces that do not check, of a key that is not there, by a method that nobody knows, and of no kind.
	off := copyPiece(answer)
	off.Mark++
	unknown := impl.StatusPiece(status(5, 7, -1, 99))
	strange := impl.SignPiece(signedOf(13, 2, 0, 0))
	none := piece(1, markSlowly(centuryKeys[0], []int{100, 3}), 100, 3)
	checkUsable(t, centuryFrame(5, 0), evidenceOf(impl.Strand{Pieces: []impl.Piece{off, unknown, strange, none, answer, {}}}), answer)
	// Time stamps are pieces, whatever key they have.
	stamped := impl.Strand{Pieces: []impl.Piece{freshPieces[1], freshPieces[0], impl.StampPiece(31, freshList[0])}}
	checkUsable(t, centuryFrame(20, 0), evidenceOf(stamped), freshPieces[0], freshPieces[1])
}

func TestUsablePiecesAreInOrder(t *testing.T) {
	l := []impl.Piece{}
	for serial := 7; serial > 2; serial-- {
		l = append(l, impl.StatusPiece(statusOf(serial, 9, -1, 1)), impl.StatusPiece(statusOf(serial, 9, -1, 2)), impl.CertPiece(certOf(serial, 11, 1, 0, 9, 1)))
	}
	e := evidenceOf(impl.Strand{Pieces: l[:8]}, impl.Strand{Pieces: l[3:12]}, impl.Strand{Pieces: l[6:]}, impl.Strand{Pieces: l[14:]})
	got := impl.UsablePieces(centuryFrame(20, 0), e, nil)
	if len(got) != len(l) {
		t.Errorf("%d pieces are usable, want %d", len(got), len(l))
	}
	for i := 1; i < len(got); i++ {
		if !impl.PieceBefore(got[i-1], got[i]) {
			t.Errorf("%v does not come before %v", got[i-1], got[i])
		}
	}
	checkEvidence(t, centuryFrame(20, 0), e)
}

func TestEvidenceAsDefined(t *testing.T) {
	for _, e := range someEvidence() {
		for _, now := range []int{20, 49, 50, 90, 130} {
			for liars := range 3 {
				checkEvidence(t, centuryFrame(now, liars), e)
			}
		}
		checkEvidence(t, impl.Frame{Now: 20}, e)
		checkEvidence(t, impl.Frame{Keys: centuryKeys, Now: 20}, e)
	}
}

func checkJoined(t *testing.T, a impl.Evidence, b impl.Evidence, want impl.Evidence) {
	t.Helper()
	if got := impl.JoinEvidence(a, b); !sameEvidence(got, want) {
		t.Errorf("JoinEvidence(%v, %v) = %v, want %v", a, b, got, want)
	}
}

func TestJoinEvidence(t *testing.T) {
	all := someEvidence()
	for _, a := range all {
		for _, b := range all {
			checkJoined(t, a, b, joinedSlowly(a, b))
		}
		checkJoined(t, a, impl.Evidence{}, a)
		checkJoined(t, a, a, a)
		checkJoined(t, a, impl.Evidence{Strands: a.Strands[:len(a.Strands)/2], Fresh: a.Fresh[len(a.Fresh)/2:]}, a)
	}
	x, y, z := counting(2, 1), counting(2, 1, 2), counting(3)
	l, m, n := freshList, freshList[:1], []impl.Stamp{}
	// What occurs twice stays so if it is on the first side, and comes once from the second.
	checkJoined(t, evidenceOf(x, x), evidenceOf(y, x, y, z, z), evidenceOf(x, x, y, z))
	checkJoined(t, evidenceOf(), evidenceOf(y, x, y), evidenceOf(y, x))
	checkJoined(t, evidenceOf(y), evidenceOf(z, y, x), evidenceOf(y, z, x))
	fresh := func(lists ...[]impl.Stamp) impl.Evidence { return impl.Evidence{Fresh: lists} }
	checkJoined(t, fresh(l, l, n), fresh(m, l, m, nil), fresh(l, l, n, m))
	checkJoined(t, fresh(), fresh(m, l, m, n, n), fresh(m, l, n))
	checkJoined(t, impl.Evidence{Strands: []impl.Strand{x}, Fresh: [][]impl.Stamp{l}}, impl.Evidence{Strands: []impl.Strand{y, x}, Fresh: [][]impl.Stamp{m, l}}, impl.Evidence{Strands: []impl.Strand{x, y}, Fresh: [][]impl.Stamp{l, m}})
	// No strand and no list is not an empty one, and an empty strand is not an empty list.
	checkJoined(t, evidenceOf(impl.Strand{}), fresh(nil), impl.Evidence{Strands: []impl.Strand{{}}, Fresh: [][]impl.Stamp{{}}})
	checkJoined(t, fresh(nil), evidenceOf(impl.Strand{}), impl.Evidence{Strands: []impl.Strand{{}}, Fresh: [][]impl.Stamp{{}}})
}

// Strands that differ in one number only, or of which the same numbers stand in other lists, are not equal.
func TestJoinEvidenceOfSimilarStrands(t *testing.T) {
	similar := []impl.Strand{
		{}, {Pieces: []impl.Piece{{}}}, {Chain: []impl.Renewal{{}}}, {Pieces: []impl.Piece{{}, {}}}, {Pieces: []impl.Piece{{}}, Chain: []impl.Renewal{{}}},
		{Pieces: []impl.Piece{piece(1, 2)}}, {Pieces: []impl.Piece{piece(2, 1)}}, {Pieces: []impl.Piece{piece(1, 2, 3)}}, {Pieces: []impl.Piece{piece(1, 2, 3, 4)}}, {Pieces: []impl.Piece{piece(1, 2, 34)}}, {Pieces: []impl.Piece{piece(1, 2), piece(3, 4)}}, {Pieces: []impl.Piece{piece(1, 2, 3, 4, 0)}},
		{Pieces: []impl.Piece{piece(1, 2, 0, 3, 4)}}, {Pieces: []impl.Piece{piece(1, 2, 3), piece(4, 5)}}, {Pieces: []impl.Piece{piece(1, 2), piece(3, 4, 5)}}, {Pieces: []impl.Piece{piece(1, 2, -3)}}, {Pieces: []impl.Piece{piece(0, 0, 1), piece(0, 0)}}, {Pieces: []impl.Piece{piece(0, 0, 1, 0, 0)}},
		{Pieces: []impl.Piece{piece(1, 2, 12, 3)}}, {Pieces: []impl.Piece{piece(1, 2, 1, 23)}}, {Pieces: []impl.Piece{piece(1, 21, 2, 3)}},
		{Chain: []impl.Renewal{{Count: 1}}}, {Chain: []impl.Renewal{{Method: 1}}}, {Chain: []impl.Renewal{{Root: 1}}}, {Chain: []impl.Renewal{{Path: []impl.Step{{}}}}}, {Chain: []impl.Renewal{{Path: []impl.Step{left(0)}}}}, {Chain: []impl.Renewal{{Path: []impl.Step{right(1)}}}}, {Chain: []impl.Renewal{{}, {}}},
		{Chain: []impl.Renewal{{Stamps: []impl.Stamp{{}}}}}, {Chain: []impl.Renewal{{Stamps: []impl.Stamp{{Authority: 1}}}}}, {Chain: []impl.Renewal{{Stamps: []impl.Stamp{{Seq: 1}}}}}, {Chain: []impl.Renewal{{Stamps: []impl.Stamp{{Time: 1}}}}}, {Chain: []impl.Renewal{{Stamps: []impl.Stamp{{Digest: 1}}}}}, {Chain: []impl.Renewal{{Stamps: []impl.Stamp{{Mark: 1}}}}},
		{Chain: []impl.Renewal{{Stamps: []impl.Stamp{{}, {}}}}}, {Chain: []impl.Renewal{{Path: []impl.Step{{}, {}, {}}}}}, {Chain: []impl.Renewal{{Path: []impl.Step{{}, {}, {}, {}, {}}}}}, {Chain: []impl.Renewal{{Path: []impl.Step{{Digest: 1}}, Stamps: []impl.Stamp{{}}}}},
		{Chain: []impl.Renewal{{Path: []impl.Step{right(1), {Digest: 103}, {}}}}}, {Pieces: []impl.Piece{piece(math.MinInt, math.MaxInt)}}, {Pieces: []impl.Piece{piece(math.MaxInt, math.MinInt)}},
		{Pieces: []impl.Piece{piece(4, 5), piece(6, 0)}}, {Chain: []impl.Renewal{{Count: 5, Root: 6}}},
	}
	for i, a := range similar {
		for j, b := range similar {
			want := evidenceOf(a)
			if i != j {
				want = evidenceOf(a, b)
			}
			checkJoined(t, evidenceOf(a), evidenceOf(copyStrand(b)), want)
			if impl.EqualEvidence(evidenceOf(a), evidenceOf(copyStrand(b))) != (i == j) {
				t.Errorf("EqualEvidence of %v and %v = %t", a, b, i != j)
			}
		}
	}
	checkJoined(t, impl.Evidence{}, evidenceOf(similar...), evidenceOf(similar...))
	lists := [][]impl.Stamp{nil, {{}}, {{}, {}}, {{Authority: 1}}, {{Seq: 1}}, {{Time: 1}}, {{Digest: 1}}, {{Mark: 1}}, {{Mark: 1}, {}}, {{}, {Mark: 1}}, {{Mark: -1}}, {{Seq: 1, Time: 23}}, {{Seq: 12, Time: 3}}}
	checkJoined(t, impl.Evidence{}, impl.Evidence{Fresh: lists}, impl.Evidence{Fresh: lists})
	checkJoined(t, impl.Evidence{Fresh: lists}, impl.Evidence{Fresh: lists}, impl.Evidence{Fresh: lists})
}

// A list is added although there is a strand that, written one number after the other, looks like it: with a length of 103, the number of the kind of stamps.
func TestJoinEvidenceOfStrandThatLooksLikeStamps(t *testing.T) {
	var s impl.Strand
	for i := range 103 {
		s.Pieces = append(s.Pieces, piece(0, 103*(i%2)))
	}
	s.Pieces[102].Ints = []int{0, 0}
	list := append(make([]impl.Stamp, 51), impl.Stamp{Authority: 2})
	want := impl.Evidence{Strands: []impl.Strand{s}, Fresh: [][]impl.Stamp{list}}
	checkJoined(t, impl.Evidence{}, want, want)
	checkJoined(t, evidenceOf(s), impl.Evidence{Fresh: [][]impl.Stamp{list}}, want)
	checkJoined(t, impl.Evidence{Fresh: [][]impl.Stamp{list}}, evidenceOf(s), want)
}

// Joined evidence is no worse: no bound is later, and nothing that was usable is lost.
func TestJoinedEvidenceIsNoWorse(t *testing.T) {
	for _, f := range []impl.Frame{centuryFrame(49, 0), centuryFrame(90, 0), centuryFrame(119, 1)} {
		for _, a := range someEvidence() {
			for _, b := range someEvidence() {
				joined := impl.JoinEvidence(a, b)
				docs := impl.AllDocDigests(joined, threeParts())
				usable := impl.UsablePieces(f, joined, docs)
				for _, side := range []impl.Evidence{a, b} {
					for _, p := range impl.UsablePieces(f, side, impl.AllDocDigests(side, threeParts())) {
						if !slices.ContainsFunc(usable, func(other impl.Piece) bool { return samePiece(other, p) }) {
							t.Errorf("%v is no longer usable after %v and %v are joined", p, a, b)
						}
						if impl.EvidenceBound(f, joined, docs, p) > impl.EvidenceBound(f, side, impl.AllDocDigests(side, threeParts()), p) {
							t.Errorf("the bound of %v is later after %v and %v are joined", p, a, b)
						}
					}
				}
			}
		}
	}
}

func checkFresh(t *testing.T, f impl.Frame, lists [][]impl.Stamp, usable []impl.Piece, x impl.Signature, want int) {
	t.Helper()
	e := impl.Evidence{Fresh: lists}
	if got := impl.FreshFrom(f, e, usable, x); got != want {
		t.Errorf("FreshFrom(%v, %v, %v) = %d, want %d", lists, usable, x, got, want)
	}
	if got := freshSlowly(f, e, usable, x); got != want {
		t.Errorf("by its definition, FreshFrom(%v, %v, %v) is %d, not %d", lists, usable, x, got, want)
	}
}

// afterStamps returns a signature by 11, or another key, that refers to stamps.
func afterStamps(key int, method int, l []impl.Stamp) impl.Signature {
	return signature(key, 5, method, 7, 1, 0, 0, impl.StampsDigest(method, l))
}

func TestFreshFromBirth(t *testing.T) {
	f := centuryFrame(90, 0)
	for _, k := range centuryKeys {
		checkFresh(t, f, nil, nil, signature(k.Number, 5, 2, 7, 1, 0, 0, 0), k.Born)
		checkFresh(t, f, [][]impl.Stamp{freshList}, freshPieces, signature(k.Number, 5, 2, 7, 1, 0, 0, 0), k.Born)
	}
	for _, number := range []int{0, 14, 99, -11} {
		checkFresh(t, f, nil, nil, signature(number, 5, 2, 7, 1, 0, 0, 0), 0)
		checkFresh(t, f, [][]impl.Stamp{freshList}, freshPieces, afterStamps(number, 2, freshList), 10)
	}
	// Of equal numbers, the first one counts, and it need not be valid.
	odd := f
	odd.Keys = []impl.Key{key(11, 1, 1, -8, 5), key(11, 1, 1, 30, 5), key(12, 1, 1, 20000, 5)}
	checkFresh(t, odd, nil, nil, signature(11, 5, 2, 7, 1, 0, 0, 0), -8)
	checkFresh(t, odd, nil, nil, signature(12, 5, 2, 7, 1, 0, 0, 0), 20000)
	apart := []impl.Stamp{stampBy(2, 1, 40, 5), stampBy(3, 1, 50, 5)}
	checkFresh(t, odd, [][]impl.Stamp{apart, {}}, []impl.Piece{impl.StampPiece(32, apart[0]), impl.StampPiece(33, apart[1])}, afterStamps(11, 2, apart), -8)
	checkFresh(t, odd, [][]impl.Stamp{freshList}, freshPieces, afterStamps(11, 2, freshList), 10)
}

func TestFreshFromStamps(t *testing.T) {
	f := centuryFrame(90, 0)
	x := afterStamps(11, 2, freshList)
	one := [][]impl.Stamp{freshList}
	checkFresh(t, f, one, freshPieces, x, 10)
	checkFresh(t, centuryFrame(90, 1), one, freshPieces, x, 8)
	checkFresh(t, centuryFrame(90, 2), one, freshPieces, x, 5)
	checkFresh(t, centuryFrame(90, -1), one, freshPieces, x, 5)
	// The key was born later.
	checkFresh(t, f, one, freshPieces, afterStamps(12, 2, freshList), 20)
	// The digest is by another method, or of other stamps.
	checkFresh(t, f, one, freshPieces, afterStamps(11, 3, freshList), 10)
	wrong := x
	wrong.Method = 3
	checkFresh(t, f, one, freshPieces, wrong, 5)
	for _, after := range []int{x.After + 1, x.After - 1, -x.After, 1, -1, 0, freshList[0].Mark} {
		wrong = x
		wrong.After = after
		checkFresh(t, f, one, freshPieces, wrong, 5)
	}
	checkFresh(t, f, nil, freshPieces, x, 5)
	checkFresh(t, f, [][]impl.Stamp{nil, {}, freshList[:1], freshList[1:]}, freshPieces, x, 5)
	// Not all of them are usable, or with another key only.
	for _, usable := range [][]impl.Piece{nil, freshPieces[:1], freshPieces[1:], {freshPieces[0], impl.StampPiece(32, freshList[1])}, {freshPieces[0], freshPieces[0]}, keptPieces(0), {freshPieces[0], {Key: 33, Ints: freshPieces[1].Ints, Mark: freshPieces[1].Mark + 1}}} {
		checkFresh(t, f, one, usable, x, 5)
	}
	checkFresh(t, f, one, []impl.Piece{freshPieces[1], keptPieces(0)[1], freshPieces[0], freshPieces[0]}, x, 10)
	// The least digest that stamps can have.
	least := stamp(2, 1, 70, 5)
	for mark := 1 - 13 - hashSlowly([]int{7, 2})*1000003; impl.StampsDigest(2, []impl.Stamp{least}) != 1; mark++ {
		least.Mark = impl.Mod(mark, impl.Modulus)
	}
	checkFresh(t, f, [][]impl.Stamp{{least}}, []impl.Piece{impl.StampPiece(32, least)}, signature(11, 5, 2, 7, 1, 0, 0, 1), 69)
	// Usable is what the argument says, also if the stamp does not check.
	forged := []impl.Stamp{stamp(2, 1, 70, 5)}
	checkFresh(t, f, [][]impl.Stamp{forged}, []impl.Piece{impl.StampPiece(32, forged[0])}, afterStamps(11, 2, forged), 69)
}

func TestFreshFromOddStamps(t *testing.T) {
	f := centuryFrame(90, 0)
	pieces := func(l []impl.Stamp) []impl.Piece {
		all := []impl.Piece{}
		for _, s := range l {
			a, _ := authoritySlowly(centuryAuthorities, s.Authority)
			all = append(all, impl.StampPiece(a.Key, s))
		}
		return all
	}
	cases := []struct {
		l    []impl.Stamp
		want int
	}{
		// Out of order, one authority twice.
		{[]impl.Stamp{freshList[1], freshList[0]}, 5}, {[]impl.Stamp{freshList[0], freshList[0]}, 5}, {[]impl.Stamp{stampBy(2, 1, 40, 5), stampBy(2, 2, 40, 6)}, 5},
		// One has no span, or they do not agree.
		{[]impl.Stamp{stampBy(2, 1, 40, 5), stampBy(9, 1, 40, 5)}, 5}, {[]impl.Stamp{stampBy(2, 1, -1, 5)}, 5}, {[]impl.Stamp{stampBy(2, 1, 40, 5), stampBy(3, 1, 10001, 5)}, 5}, {[]impl.Stamp{stampBy(2, 1, 40, 5), stampBy(3, 1, 50, 5)}, 5},
		// Of other digests each, and of several authorities.
		{[]impl.Stamp{stampBy(2, 1, 40, 5), stampBy(3, 1, 40, 6)}, 40}, {[]impl.Stamp{stampBy(1, 1, 40, 5), stampBy(2, 1, 41, 5)}, 40}, {[]impl.Stamp{stampBy(1, 1, 40, 5)}, 39}, {[]impl.Stamp{stampBy(4, 1, 2, 5)}, 5}, {[]impl.Stamp{stampBy(3, 1, 5, 5)}, 5}, {[]impl.Stamp{stampBy(3, 1, 6, 5)}, 6}, {[]impl.Stamp{stampBy(3, 1, 4, 5)}, 5},
		// An authority whose key is not there.
		{[]impl.Stamp{stamp(5, 1, 40, 5)}, 38},
	}
	for _, c := range cases {
		checkFresh(t, f, [][]impl.Stamp{c.l}, pieces(c.l), afterStamps(11, 2, c.l), c.want)
	}
	// Several lists fit only if they have the same digest: here, as the same marks.
	a, b := []impl.Stamp{stamp(2, 1, 30, 5)}, []impl.Stamp{stamp(3, 1, 40, 5)}
	a[0].Mark, b[0].Mark = 7, 7
	for _, lists := range [][][]impl.Stamp{{a, b}, {b, a}, {a, b, a}} {
		checkFresh(t, f, lists, append(pieces(a), pieces(b)...), afterStamps(11, 2, a), 40)
		checkFresh(t, f, lists, pieces(a), afterStamps(11, 2, a), 29)
		checkFresh(t, f, lists, pieces(b), afterStamps(11, 2, a), 40)
	}
}

func TestEqualEvidence(t *testing.T) {
	x, y := counting(2, 1), counting(2, 1, 2)
	all := []impl.Evidence{
		{}, evidenceOf(x), evidenceOf(y), evidenceOf(x, x), evidenceOf(x, y), evidenceOf(y, x), evidenceOf(x, y, x), evidenceOf(impl.Strand{}),
		{Fresh: [][]impl.Stamp{freshList}}, {Fresh: [][]impl.Stamp{{freshList[1], freshList[0]}}}, {Fresh: [][]impl.Stamp{freshList[:1]}}, {Fresh: [][]impl.Stamp{freshList, freshList}}, {Fresh: [][]impl.Stamp{freshList, freshList[:1]}}, {Fresh: [][]impl.Stamp{freshList[:1], freshList}}, {Fresh: [][]impl.Stamp{nil}},
		{Strands: []impl.Strand{x}, Fresh: [][]impl.Stamp{freshList}}, {Strands: []impl.Strand{x}, Fresh: [][]impl.Stamp{nil}},
	}
	for i, a := range all {
		for j, b := range all {
			if got := impl.EqualEvidence(a, copyEvidence(b)); got != (i == j) {
				t.Errorf("EqualEvidence(%v, %v) = %t", a, b, got)
			}
		}
	}
	for i, change := range []func(s *impl.Stamp){func(s *impl.Stamp) { s.Authority++ }, func(s *impl.Stamp) { s.Seq++ }, func(s *impl.Stamp) { s.Time++ }, func(s *impl.Stamp) { s.Digest++ }, func(s *impl.Stamp) { s.Mark++ }} {
		a := impl.Evidence{Fresh: [][]impl.Stamp{slices.Clone(freshList)}}
		b := copyEvidence(a)
		change(&b.Fresh[0][1])
		if impl.EqualEvidence(a, b) {
			t.Errorf("change %d: EqualEvidence(%v, %v) = true", i, a, b)
		}
	}
	if !impl.EqualEvidence(impl.Evidence{}, impl.Evidence{Strands: []impl.Strand{}, Fresh: [][]impl.Stamp{}}) || !impl.EqualEvidence(impl.Evidence{Fresh: [][]impl.Stamp{nil}}, impl.Evidence{Fresh: [][]impl.Stamp{{}}}) {
		t.Error("nil and empty lists differ")
	}
}

func TestEvidenceLeavesArgumentsAlone(t *testing.T) {
	f := impl.Frame{Keys: spareKeys(centuryKeys), Authorities: spareAuthorities(centuryAuthorities), Methods: spareMethods(centuryMethods), Now: 40}
	for _, x := range someEvidence() {
		e := spareEvidence(x)
		docs := spareOf(mapped(allDocsSlowly(x, threeParts()), spareInts), []int{-7})
		p := sparePiece(keptPieces(0)[0])
		usable := mapped(freshPieces, sparePiece)
		calls := []func(){
			func() { impl.AllDocDigests(e, threeParts()) }, func() { impl.AllRedactedDigests(e, redacted([]int{2}, threeParts(), 0)) }, func() { impl.EvidenceBound(f, e, docs, p) },
			func() { impl.FreshFrom(f, e, usable, afterStamps(11, 2, freshList)) }, func() { impl.EqualEvidence(e, e) }, func() { impl.EqualEvidence(e, impl.Evidence{}) },
			func() {
				for _, p := range impl.UsablePieces(f, e, docs) {
					fill(p.Ints, -1)
				}
				fill(impl.UsablePieces(f, e, docs), piece(-1, -1))
			},
			func() { wipeEvidence(impl.JoinEvidence(e, e)) }, func() { wipeEvidence(impl.JoinEvidence(e, impl.Evidence{})) }, func() { wipeEvidence(impl.JoinEvidence(impl.Evidence{}, e)) },
		}
		checkEvidenceUnchanged(t, "evidence", e, calls...)
		checkUnchanged(t, "evidence", f.Keys, calls...)
		checkUnchanged(t, "evidence", p.Ints, calls...)
		checkPiecesUnchanged(t, "evidence", usable, calls...)
		for _, l := range docs {
			checkUnchanged(t, "evidence", l, calls...)
		}
	}
}

func TestResultsOfEvidenceAreApart(t *testing.T) {
	f := centuryFrame(40, 0)
	for _, a := range someEvidence() {
		for _, b := range someEvidence() {
			a, b := copyEvidence(a), copyEvidence(b)
			want := joinedSlowly(a, b)
			first, second := impl.JoinEvidence(a, b), impl.JoinEvidence(a, b)
			wipeEvidence(first)
			wipeEvidence(a)
			wipeEvidence(b)
			if !sameEvidence(second, want) {
				t.Fatalf("JoinEvidence returns memory that it shares, instead of %v: %v", want, second)
			}
		}
		e := copyEvidence(a)
		docs := allDocsSlowly(e, threeParts())
		want := mapped(usableSlowly(f, e, docs), copyPiece)
		first, second := impl.UsablePieces(f, e, docs), impl.UsablePieces(f, e, docs)
		for _, p := range first {
			fill(p.Ints, -1)
		}
		wipeEvidence(e)
		if !slices.EqualFunc(second, want, samePiece) {
			t.Errorf("UsablePieces returns memory that it shares, instead of %v: %v", want, second)
		}
		e = copyEvidence(a)
		digests, again := impl.AllDocDigests(e, threeParts()), impl.AllDocDigests(e, threeParts())
		for _, l := range digests {
			fill(l, -1)
		}
		fill(digests, nil)
		if !slices.EqualFunc(again, docs, slices.Equal[[]int]) {
			t.Error("two results of AllDocDigests share memory")
		}
	}
}
