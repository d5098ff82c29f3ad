package tests

import (
	"math"
	"slices"
	"testing"

	"loop.example/g00597/impl"
)

// numbered returns n different pieces.
func numbered(n int) []impl.Piece {
	l := []impl.Piece{}
	for i := range n {
		l = append(l, piece(i, 5, 103, i, 4))
	}
	return l
}

// counting returns a strand with n pieces and with renewals of these Counts.
func counting(n int, counts ...int) impl.Strand {
	s := impl.Strand{Pieces: numbered(n)}
	for i, count := range counts {
		s.Chain = append(s.Chain, impl.Renewal{Count: count, Method: i + 1, Root: 7, Path: []impl.Step{left(i)}, Stamps: []impl.Stamp{stampBy(2, i, 20+i, 7)}})
	}
	return s
}

// sameStrand compares without the program's help.
func sameStrand(a impl.Strand, b impl.Strand) bool {
	return slices.EqualFunc(a.Pieces, b.Pieces, samePiece) && slices.EqualFunc(a.Chain, b.Chain, sameRenewal)
}

func copyPiece(p impl.Piece) impl.Piece {
	p.Ints = slices.Clone(p.Ints)
	return p
}

// mapped returns what f makes of each element.
func mapped[T any](l []T, f func(T) T) []T {
	m := slices.Clone(l)
	for i := range m {
		m[i] = f(m[i])
	}
	return m
}

func copyStrand(s impl.Strand) impl.Strand {
	return impl.Strand{Pieces: mapped(s.Pieces, copyPiece), Chain: mapped(s.Chain, copyRenewal)}
}

// spareStrand returns s with room behind all of its lists.
func spareStrand(s impl.Strand) impl.Strand {
	return impl.Strand{
		Pieces: spareOf(mapped(s.Pieces, sparePiece), piece(-7, -7, -7)),
		Chain:  spareOf(mapped(s.Chain, spareRenewal), impl.Renewal{Count: -7}),
	}
}

// wholeStrand returns a copy of s with what is behind the ends of its lists as well.
func wholeStrand(s impl.Strand) impl.Strand {
	wholePiece := func(p impl.Piece) impl.Piece { return piece(p.Key, p.Mark, slices.Clone(p.Ints[:cap(p.Ints)])...) }
	return impl.Strand{
		Pieces: mapped(s.Pieces[:cap(s.Pieces)], wholePiece),
		Chain:  mapped(s.Chain[:cap(s.Chain)], func(r impl.Renewal) impl.Renewal { return copyRenewal(wholeRenewal(r)) }),
	}
}

// wipeStrand overwrites all memory of s.
func wipeStrand(s impl.Strand) {
	for _, p := range s.Pieces {
		fill(p.Ints, -99)
	}
	for _, r := range s.Chain {
		fill(r.Path, left(-99))
		fill(r.Stamps, stamp(-99, -99, -99, -99))
	}
	fill(s.Pieces, piece(-99, -99))
	fill(s.Chain, impl.Renewal{Count: -99})
}

// isStrandSlowly tells by the definition alone what IsStrand returns.
func isStrandSlowly(s impl.Strand) bool {
	n := len(s.Pieces)
	for i := range n {
		for j := range i {
			if samePiece(s.Pieces[i], s.Pieces[j]) {
				return false
			}
		}
	}
	for i, r := range s.Chain {
		if r.Count < 1 || r.Count > n || i > 0 && r.Count < s.Chain[i-1].Count {
			return false
		}
	}
	return n >= 1 && n <= 12 && len(s.Chain) <= 8
}

// leafAtSlowly tells by the definition alone what LeafAt returns.
func leafAtSlowly(s impl.Strand, docs []int, k int) int {
	if k < 0 || k >= len(s.Chain) || len(docs) != len(s.Chain) || s.Chain[k].Count < 0 || s.Chain[k].Count > len(s.Pieces) {
		return -1
	}
	before := 0
	if k > 0 {
		before = renewalDigestSlowly(s.Chain[k].Method, s.Chain[k-1])
	}
	return leafSlowly(s.Chain[k].Method, docs[k], s.Pieces[:s.Chain[k].Count], before)
}

// docsSlowly returns the digests of d by the methods of the renewals.
func docsSlowly(s impl.Strand, d impl.Document) []int {
	docs := []int{}
	for _, r := range s.Chain {
		docs = append(docs, docDigestSlowly(r.Method, d))
	}
	return docs
}

// someStrands are valid and not valid, and no two of them are equal.
func someStrands() []impl.Strand {
	d := threeParts()
	return []impl.Strand{
		{}, counting(1), counting(2), counting(12), counting(13), counting(0, 1), counting(1, 1), counting(1, 0), counting(1, 2), counting(1, -1),
		counting(3, 1, 2, 3), counting(3, 1, 1, 3), counting(3, 3, 3, 3), counting(3, 2, 1, 3), counting(3, 1, 3, 2), counting(3, 1, 2, 4), counting(3, 0, 2, 3),
		counting(2, 1, 1, 1, 1, 1, 1, 2, 2), counting(2, 1, 1, 1, 1, 1, 1, 2, 2, 2), counting(3, math.MinInt, math.MaxInt),
		{Pieces: []impl.Piece{piece(1, 2, 3), piece(1, 2, 3)}}, {Pieces: []impl.Piece{{}}}, {Chain: []impl.Renewal{{}}},
		strandWith(d, numbered(1), renewAt(1, 2, 20, 2)), strandWith(d, numbered(3), renewAt(1, 2, 20, 1, 2), renewAt(3, 1, 30, 2, 3), renewAt(3, 2, 40, 3)),
	}
}

func TestStrandConstants(t *testing.T) {
	if impl.MaxPieces != 12 || impl.MaxChain != 8 {
		t.Errorf("MaxPieces = %d, MaxChain = %d", impl.MaxPieces, impl.MaxChain)
	}
}

func checkIsStrand(t *testing.T, s impl.Strand, want bool) {
	t.Helper()
	if got := impl.IsStrand(s); got != want {
		t.Errorf("IsStrand(%v) = %t", s, got)
	}
	if isStrandSlowly(s) != want {
		t.Errorf("by its definition, IsStrand(%v) is %t", s, !want)
	}
}

func TestIsStrandByPieces(t *testing.T) {
	for n := range 16 {
		checkIsStrand(t, counting(n), n >= 1 && n <= 12)
		if n < 2 || n > 12 {
			continue
		}
		for i := range n {
			for j := range i {
				s := counting(n)
				s.Pieces[i] = copyPiece(s.Pieces[j])
				checkIsStrand(t, s, false)
				// One number, the key or the mark makes it another piece.
				s.Pieces[i].Ints[1] += 100
				checkIsStrand(t, s, true)
				s.Pieces[i] = copyPiece(s.Pieces[j])
				s.Pieces[i].Key += 100
				checkIsStrand(t, s, true)
				s.Pieces[i] = copyPiece(s.Pieces[j])
				s.Pieces[i].Mark += 100
				checkIsStrand(t, s, true)
			}
		}
	}
	checkIsStrand(t, impl.Strand{Pieces: []impl.Piece{}, Chain: []impl.Renewal{}}, false)
	checkIsStrand(t, impl.Strand{Pieces: []impl.Piece{{}}}, true)
	checkIsStrand(t, impl.Strand{Pieces: []impl.Piece{{}, {Ints: []int{}}}}, false)
	checkIsStrand(t, impl.Strand{Pieces: []impl.Piece{{}, {Ints: []int{0}}}}, true)
}

func TestIsStrandByCounts(t *testing.T) {
	cases := []struct {
		n      int
		counts []int
		want   bool
	}{
		{1, []int{1}, true}, {1, []int{0}, false}, {1, []int{2}, false}, {1, []int{-1}, false}, {1, []int{math.MinInt}, false}, {1, []int{math.MaxInt}, false},
		{3, []int{1}, true}, {3, []int{3}, true}, {3, []int{4}, false}, {12, []int{12}, true}, {12, []int{13}, false},
		{3, []int{1, 1}, true}, {3, []int{1, 3}, true}, {3, []int{3, 3}, true}, {3, []int{2, 1}, false}, {3, []int{3, 2}, false}, {3, []int{1, 0}, false}, {3, []int{0, 1}, false}, {3, []int{1, 4}, false}, {3, []int{4, 4}, false},
		{3, []int{1, 2, 2, 3}, true}, {3, []int{1, 2, 1, 3}, false}, {3, []int{1, 3, 2, 3}, false}, {3, []int{2, 2, 2, 1}, false},
		{2, slices.Repeat([]int{1}, 8), true}, {2, slices.Repeat([]int{1}, 9), false}, {2, slices.Repeat([]int{2}, 100), false}, {0, []int{1}, false}, {0, []int{0}, false}, {13, []int{1}, false},
	}
	for _, c := range cases {
		checkIsStrand(t, counting(c.n, c.counts...), c.want)
	}
	for _, s := range someStrands() {
		checkIsStrand(t, s, isStrandSlowly(s))
	}
}

func TestDocDigests(t *testing.T) {
	for _, s := range someStrands() {
		for _, d := range append(slices.Clone(someDocuments), threeParts()) {
			want := docsSlowly(s, d)
			if got := impl.DocDigests(s, d); !slices.Equal(got, want) {
				t.Errorf("DocDigests(%v, %v) = %v, want %v", s, d, got, want)
			}
			for _, r := range []impl.Redacted{redacted([]int{1, 2, 3, 0, -1}, d, 0), redacted([]int{2}, d, 0), redacted([]int{2}, d), redacted(nil, d, 0), {}} {
				want := []int{}
				for _, renewal := range s.Chain {
					want = append(want, impl.RedactedDigest(renewal.Method, r))
				}
				if got := impl.RedactedDigests(s, r); !slices.Equal(got, want) {
					t.Errorf("RedactedDigests(%v, %v) = %v, want %v", s, r, got, want)
				}
			}
		}
		for _, d := range badDocuments[:5] {
			if got := impl.DocDigests(s, d); !slices.Equal(got, slices.Repeat([]int{-1}, len(s.Chain))) {
				t.Errorf("DocDigests(%v) of a document that is not valid = %v", s, got)
			}
		}
	}
	// Hiding changes nothing, as far as there are digests by the method.
	d, s := threeParts(), counting(3, 1, 1, 2, 3)
	docs := docsSlowly(s, d)
	if got := impl.RedactedDigests(s, redacted([]int{1, 3}, d, 0, 2)); !slices.Equal(got, []int{docs[0], -1, docs[2], -1}) {
		t.Errorf("RedactedDigests = %v, want %v without two of them", got, docs)
	}
	if got := impl.RedactedDigests(s, redacted(nil, d)); !slices.Equal(got, docs) {
		t.Errorf("RedactedDigests with nothing hidden = %v, want %v", got, docs)
	}
}

func TestLeafAt(t *testing.T) {
	for _, s := range someStrands() {
		for n := range len(s.Chain) + 2 {
			docs := []int{}
			for i := range n {
				docs = append(docs, 1000+i)
			}
			for _, k := range []int{-2, -1, 0, 1, 2, 3, 7, 8, 9, len(s.Chain), len(s.Chain) + 1, math.MinInt, math.MaxInt} {
				if got, want := impl.LeafAt(s, docs, k), leafAtSlowly(s, docs, k); got != want {
					t.Errorf("LeafAt(%v, %v, %d) = %d, want %d", s, docs, k, got, want)
				}
			}
		}
	}
	s := counting(3, 2, 3)
	first := impl.LeafOf(1, 40, s.Pieces[:2], 0)
	second := impl.LeafOf(2, 41, s.Pieces, impl.RenewalDigest(2, s.Chain[0]))
	if impl.LeafAt(s, []int{40, 41}, 0) != first || impl.LeafAt(s, []int{40, 41}, 1) != second || impl.LeafAt(s, nil, 0) != -1 || impl.LeafAt(counting(1), nil, 0) != -1 {
		t.Error("leaves of a strand with two renewals")
	}
	// No pieces are a list as well.
	if got := impl.LeafAt(counting(3, 0), []int{40}, 0); got != impl.LeafOf(1, 40, nil, 0) {
		t.Errorf("LeafAt of the Count 0 = %d", got)
	}
}

// A Count is asked for only where the leaf is.
func TestLeafBesideOddCounts(t *testing.T) {
	s := counting(3, -1, 2, 4)
	docs := []int{40, 41, 42}
	for k, want := range []int{-1, leafAtSlowly(s, docs, 1), -1} {
		if got := impl.LeafAt(s, docs, k); got != want {
			t.Errorf("LeafAt(%v, %d) = %d, want %d", s, k, got, want)
		}
	}
}

func checkFault(t *testing.T, s impl.Strand, docs []int, want int) {
	t.Helper()
	if got := impl.FirstFault(centuryKeys, centuryAuthorities, s, docs); got != want {
		t.Errorf("FirstFault(%v, %v) = %d, want %d", s, docs, got, want)
	}
}

func TestFirstFault(t *testing.T) {
	d := threeParts()
	s := strandWith(d, numbered(3), renewAt(1, 2, 20, 1, 2), renewAt(2, 1, 30, 2, 3), renewAt(3, 2, 40, 3))
	docs := docsSlowly(s, d)
	checkFault(t, s, docs, 3)
	checkFault(t, impl.Strand{}, nil, 0)
	checkFault(t, counting(5), nil, 0)
	checkFault(t, counting(5), []int{3}, 0)
	for k := range 3 {
		for _, change := range []func(s *impl.Strand){
			func(s *impl.Strand) { s.Chain[k].Stamps = nil }, func(s *impl.Strand) { s.Chain[k].Root++ }, func(s *impl.Strand) { s.Chain[k].Method++ }, func(s *impl.Strand) { s.Chain[k].Path = []impl.Step{left(1)} }, func(s *impl.Strand) { s.Chain[k].Stamps[0].Mark++ },
			func(s *impl.Strand) { s.Chain[k].Count-- }, func(s *impl.Strand) { s.Chain[k].Count = 4 }, func(s *impl.Strand) { s.Pieces[k].Mark++ }, func(s *impl.Strand) { s.Pieces[k].Key++ }, func(s *impl.Strand) { s.Pieces[k].Ints[2]++ },
		} {
			bad := copyStrand(s)
			change(&bad)
			checkFault(t, bad, docs, k)
		}
		other := slices.Clone(docs)
		other[k]++
		checkFault(t, s, other, k)
	}
	checkFault(t, s, docs[:2], 0)
	checkFault(t, s, append(slices.Clone(docs), 5), 0)
	checkFault(t, s, nil, 0)
	another, _ := impl.ReplacePart(d, 0, "another part")
	checkFault(t, s, docsSlowly(s, another), 0)
	// A renewal by other stamps over the same root is another one for the next.
	bad := copyStrand(s)
	bad.Chain[0].Stamps = stampsBy(21, bad.Chain[0].Root, 1, 2)
	checkFault(t, bad, docs, 1)
	bad = copyStrand(s)
	bad.Chain = slices.Delete(bad.Chain, 1, 2)
	checkFault(t, bad, docsSlowly(bad, d), 1)
	// A piece that only the last one covers.
	bad = copyStrand(s)
	bad.Pieces[2].Mark++
	checkFault(t, bad, docs, 2)
	bad.Pieces = bad.Pieces[:2]
	checkFault(t, bad, docs, 2)
}

// What was covered stays covered: what is added changes nothing before.
func TestWhatWasCoveredStaysCovered(t *testing.T) {
	d := threeParts()
	s, ok := impl.AddPiece(impl.Strand{}, piece(1, 2, 3))
	for i := range impl.MaxChain {
		p := piece(i, i, 4)
		grown, added := impl.AddPiece(s, p)
		leaf := impl.LeafOf(2, docDigestSlowly(2, d), grown.Pieces, 0)
		if i > 0 {
			leaf = impl.LeafOf(2, docDigestSlowly(2, d), grown.Pieces, impl.RenewalDigest(2, s.Chain[i-1]))
		}
		renewed, done := impl.AddRenewal(grown, renewalBy(len(grown.Pieces), 2, leaf, 20+i, 2, 3))
		ok = ok && added && done
		if n := len(renewed.Chain); n != i+1 || impl.FirstFault(centuryKeys, centuryAuthorities, renewed, impl.DocDigests(renewed, d)) != n {
			t.Fatalf("after %d renewals: %v", i, renewed)
		}
		s = renewed
	}
	if !ok || !impl.IsStrand(s) {
		t.Errorf("the strand %v", s)
	}
}

func TestFindPiece(t *testing.T) {
	s := impl.Strand{Pieces: []impl.Piece{piece(3, 5, 4), piece(3, 6, 4), piece(3, 5, 4), {}, piece(9, 9, 9, 9)}}
	cases := []struct {
		p    impl.Piece
		want int
	}{
		{piece(3, 5, 4), 0}, {piece(3, 6, 4), 1}, {impl.Piece{}, 3}, {impl.Piece{Ints: []int{}}, 3}, {piece(9, 9, 9, 9), 4},
		{piece(3, 7, 4), -1}, {piece(4, 5, 4), -1}, {piece(3, 5, 5), -1}, {piece(3, 5), -1}, {piece(3, 5, 4, 0), -1}, {piece(9, 9, 9), -1},
	}
	for _, c := range cases {
		if got := impl.FindPiece(s, c.p); got != c.want {
			t.Errorf("FindPiece(%v) = %d, want %d", c.p, got, c.want)
		}
		if got := impl.FindPiece(impl.Strand{Chain: counting(1, 1).Chain}, c.p); got != -1 {
			t.Errorf("FindPiece(%v) without pieces = %d", c.p, got)
		}
	}
}

// checkGrown checks what adding to s returns, and that it shares no memory with s or with what was added.
func checkGrown(t *testing.T, name string, s impl.Strand, want impl.Strand, wantOk bool, add func(s impl.Strand) (impl.Strand, bool)) {
	t.Helper()
	if !wantOk {
		want = s
	}
	want = copyStrand(want)
	full := spareStrand(s)
	before := wholeStrand(full)
	got, ok := add(full)
	again, _ := add(full)
	if ok != wantOk || !sameStrand(got, want) {
		t.Errorf("%s to %v returns %v, %t, want %v, %t", name, s, got, ok, want, wantOk)
	}
	wipeStrand(again)
	if !sameStrand(before, wholeStrand(full)) || !sameStrand(got, want) {
		t.Errorf("%s to %v writes into it, or returns memory that it shares", name, s)
	}
	wipeStrand(full)
	if !sameStrand(got, want) {
		t.Errorf("what %s to %v returns changes with it", name, s)
	}
}

func TestAddPiece(t *testing.T) {
	for _, s := range someStrands() {
		for _, p := range append(numbered(13), impl.Piece{}, piece(1, 2, 3)) {
			want := copyStrand(s)
			want.Pieces = append(want.Pieces, p)
			p = sparePiece(p)
			before := slices.Clone(p.Ints[:cap(p.Ints)])
			checkGrown(t, "AddPiece", s, want, isStrandSlowly(want), func(s impl.Strand) (impl.Strand, bool) { return impl.AddPiece(s, p) })
			if !slices.Equal(before, p.Ints[:cap(p.Ints)]) {
				t.Errorf("AddPiece(%v) writes into the piece, or returns memory that it shares", p)
			}
			got, _ := impl.AddPiece(s, p)
			same := copyStrand(got)
			fill(p.Ints, -1)
			if !sameStrand(got, same) {
				t.Errorf("what AddPiece(%v) returns changes with the piece", p)
			}
			copy(p.Ints[:cap(p.Ints)], before)
		}
	}
}

func TestAddPieceThatIsThere(t *testing.T) {
	s := counting(3, 1, 2)
	for i := range s.Pieces {
		if got, ok := impl.AddPiece(s, s.Pieces[i]); ok || !sameStrand(got, s) {
			t.Errorf("AddPiece of a piece that is there = %v, %t", got, ok)
		}
	}
	// A strand that was not valid can be after that, if only a piece was missing.
	if got, ok := impl.AddPiece(impl.Strand{}, piece(1, 2, 3)); !ok || !impl.IsStrand(got) {
		t.Errorf("AddPiece to nothing = %v, %t", got, ok)
	}
	if got, ok := impl.AddPiece(counting(2, 3), piece(1, 2, 3)); !ok || !impl.IsStrand(got) {
		t.Errorf("AddPiece of a piece that was missing = %v, %t", got, ok)
	}
}

func TestAddRenewal(t *testing.T) {
	for _, s := range someStrands() {
		for _, r := range []impl.Renewal{{}, renewalBy(1, 2, 7, 20, 2, 3), renewalBy(2, 2, 7, 20, 2, 3), renewalBy(3, 1, 7, 20), renewalBy(4, 2, 7, 20, 2), renewalBy(-1, 2, 7, 20, 2), {Count: 1, Path: []impl.Step{left(3)}}} {
			want := copyStrand(s)
			want.Chain = append(want.Chain, r)
			r = spareRenewal(r)
			before := copyRenewal(wholeRenewal(r))
			checkGrown(t, "AddRenewal", s, want, isStrandSlowly(want), func(s impl.Strand) (impl.Strand, bool) { return impl.AddRenewal(s, r) })
			if !sameRenewal(before, wholeRenewal(r)) {
				t.Errorf("AddRenewal(%v) writes into the renewal, or returns memory that it shares", r)
			}
			got, _ := impl.AddRenewal(s, r)
			same := copyStrand(got)
			fill(r.Path, left(-1))
			fill(r.Stamps, stamp(-1, -1, -1, -1))
			if !sameStrand(got, same) {
				t.Errorf("what AddRenewal(%v) returns changes with the renewal", r)
			}
		}
	}
}

// What was added to a copy does not show in the strand that came in, nor in another copy.
func TestStrandsGrowApart(t *testing.T) {
	s, _ := impl.AddPiece(impl.Strand{}, piece(1, 2, 3))
	a, _ := impl.AddPiece(s, piece(1, 2, 4))
	b, _ := impl.AddPiece(s, piece(1, 2, 5))
	c, _ := impl.AddRenewal(a, renewalBy(1, 2, 7, 20, 2))
	d, _ := impl.AddRenewal(a, renewalBy(2, 2, 8, 21, 3))
	if len(s.Pieces) != 1 || a.Pieces[1].Ints[0] != 4 || b.Pieces[1].Ints[0] != 5 || len(a.Chain) != 0 || c.Chain[0].Root != 7 || d.Chain[0].Root != 8 {
		t.Errorf("%v, %v, %v, %v, %v", s, a, b, c, d)
	}
}

func TestEqualStrands(t *testing.T) {
	all := someStrands()
	for i, a := range all {
		for j, b := range all {
			if got := impl.EqualStrands(a, copyStrand(b)); got != (i == j) {
				t.Errorf("EqualStrands(%v, %v) = %t", a, b, got)
			}
		}
	}
	a := counting(3, 1, 2)
	for i, change := range []func(s *impl.Strand){
		func(s *impl.Strand) { s.Pieces[2].Mark++ }, func(s *impl.Strand) { s.Pieces[0].Key++ }, func(s *impl.Strand) { s.Pieces[1].Ints[2]++ }, func(s *impl.Strand) { s.Pieces = s.Pieces[:2] }, func(s *impl.Strand) { slices.Reverse(s.Pieces) },
		func(s *impl.Strand) { s.Chain[1].Count++ }, func(s *impl.Strand) { s.Chain[0].Method++ }, func(s *impl.Strand) { s.Chain[0].Root++ }, func(s *impl.Strand) { s.Chain[1].Path = nil }, func(s *impl.Strand) { s.Chain[1].Stamps[0].Mark++ },
		func(s *impl.Strand) { s.Chain = s.Chain[:1] }, func(s *impl.Strand) { s.Chain = nil }, func(s *impl.Strand) { slices.Reverse(s.Chain) },
	} {
		b := copyStrand(a)
		change(&b)
		if impl.EqualStrands(a, b) || impl.EqualStrands(b, a) {
			t.Errorf("change %d: EqualStrands(%v, %v) = true", i, a, b)
		}
	}
	if !impl.EqualStrands(impl.Strand{}, impl.Strand{Pieces: []impl.Piece{}, Chain: []impl.Renewal{}}) {
		t.Error("nil and empty lists differ")
	}
}

func TestStrandsLeaveArgumentsAlone(t *testing.T) {
	keys, authorities := spareKeys(centuryKeys), spareAuthorities(centuryAuthorities)
	d := spareDocument(threeParts())
	for _, x := range someStrands() {
		s := spareStrand(x)
		before := wholeStrand(s)
		docs := spareInts(docsSlowly(s, d))
		calls := []func(){
			func() { impl.IsStrand(s) }, func() { impl.DocDigests(s, d) }, func() { impl.RedactedDigests(s, redacted([]int{1}, d, 0)) }, func() { impl.LeafAt(s, docs, 0) }, func() { impl.LeafAt(s, docs, 1) },
			func() { impl.FirstFault(keys, authorities, s, docs) }, func() { impl.FindPiece(s, piece(1, 2, 3)) }, func() { impl.EqualStrands(s, s) }, func() { impl.EqualStrands(s, impl.Strand{}) },
			func() { fill(impl.DocDigests(s, d), -1) }, func() { fill(impl.RedactedDigests(s, redacted([]int{1}, d, 0)), -1) },
		}
		checkUnchanged(t, "strands", docs, calls...)
		checkUnchanged(t, "strands", keys, calls...)
		checkUnchanged(t, "strands", d.Parts, calls...)
		if !sameStrand(before, wholeStrand(s)) {
			t.Errorf("a function writes into the strand %v", x)
		}
		first, second := impl.DocDigests(s, d), impl.DocDigests(s, d)
		fill(first, -1)
		if !slices.Equal(second, docsSlowly(x, d)) {
			t.Error("two results of DocDigests share memory")
		}
	}
}
