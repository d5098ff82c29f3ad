package tests

import (
	"math"
	"slices"
	"testing"

	"loop.example/g00597/impl"
)

func digestSlowly(method int, l ...int) int {
	return hashSlowly(slices.Concat([]int{7, method}, l))
}

func piecesDigestSlowly(method int, l []impl.Piece) int {
	all := []int{2}
	for _, p := range l {
		all = append(all, digestSlowly(method, slices.Concat([]int{p.Key, p.Mark}, p.Ints)...))
	}
	return digestSlowly(method, all...)
}

func leafSlowly(method int, doc int, l []impl.Piece, before int) int {
	return digestSlowly(method, 3, doc, piecesDigestSlowly(method, l), before)
}

func renewalDigestSlowly(method int, r impl.Renewal) int {
	all := []int{4, r.Count, r.Method, r.Root}
	for _, s := range r.Path {
		side := 0
		if s.Left {
			side = 1
		}
		all = append(all, s.Digest, side)
	}
	all = append(all, len(r.Stamps))
	for _, s := range r.Stamps {
		all = slices.Concat(all, stampIntsSlowly(s), []int{s.Mark})
	}
	return digestSlowly(method, all...)
}

// renewalHoldsSlowly tells by the definition alone what CheckRenewal returns.
func renewalHoldsSlowly(keys []impl.Key, l []impl.Authority, r impl.Renewal, leaf int) bool {
	if len(r.Path) > 4 || followSlowly(r.Method, leaf, r.Path) != r.Root || len(r.Stamps) == 0 || len(r.Stamps) > 6 {
		return false
	}
	for i, s := range r.Stamps {
		made, ok := stampSlowly(keys, l, s)
		if !ok || s != made || s.Digest != r.Root || i > 0 && r.Stamps[i-1].Authority >= s.Authority {
			return false
		}
	}
	return true
}

// agreedStampsSlowly tells by the definition alone on which span the stamps agree.
func agreedStampsSlowly(l []impl.Authority, stamps []impl.Stamp, liars int) (impl.Span, bool) {
	spans := []impl.Span{}
	for _, s := range stamps {
		a, i := authoritySlowly(l, s.Authority)
		if i < 0 || a.Error < 0 || s.Time < 0 || s.Time > 10000 {
			return impl.Span{}, false
		}
		spans = append(spans, span(max(0, s.Time-a.Error), min(10000, s.Time+a.Error)))
	}
	return agreedSlowly(countsOf(spans), len(spans), liars)
}

// breakSlowly returns when a method is broken; 0 if nobody knows it.
func breakSlowly(methods []impl.Method, id int) int {
	m, i := methodById(methods, id)
	if i < 0 {
		return 0
	}
	return m.Broken
}

func renewalBreakSlowly(keys []impl.Key, l []impl.Authority, methods []impl.Method, r impl.Renewal) int {
	first := breakSlowly(methods, r.Method)
	for _, s := range r.Stamps {
		a, _ := authoritySlowly(l, s.Authority)
		k, i := keySlowly(keys, a.Key)
		if i < 0 {
			return 0
		}
		first = min(first, breakSlowly(methods, k.Method))
	}
	return first
}

// sameRenewal compares without the program's help.
func sameRenewal(a impl.Renewal, b impl.Renewal) bool {
	return a.Count == b.Count && a.Method == b.Method && a.Root == b.Root && slices.Equal(a.Path, b.Path) && slices.Equal(a.Stamps, b.Stamps)
}

func copyRenewal(r impl.Renewal) impl.Renewal {
	r.Path, r.Stamps = slices.Clone(r.Path), slices.Clone(r.Stamps)
	return r
}

// spareRenewal returns r with room behind its lists.
func spareRenewal(r impl.Renewal) impl.Renewal {
	r.Path, r.Stamps = spareOf(r.Path, left(-77)), spareOf(r.Stamps, stamp(-7, -7, -7, -7))
	return r
}

// wholeRenewal returns r with what is behind the ends of its lists as well.
func wholeRenewal(r impl.Renewal) impl.Renewal {
	r.Path, r.Stamps = r.Path[:cap(r.Path)], r.Stamps[:cap(r.Stamps)]
	return r
}

// pathRenewal returns a renewal of a leaf by a path, with stamps of the authorities 2 and 3 at 60.
func pathRenewal(leaf int, path ...impl.Step) impl.Renewal {
	r := renewalBy(1, 2, followSlowly(2, leaf, path), 60, 2, 3)
	r.Path = path
	return r
}

// someRenewals: no path, paths of all lengths up to one too many, no stamps and several, and ones of which nothing is right. No two of them are equal.
var someRenewals = []impl.Renewal{
	{}, {Count: 1}, {Method: 1}, {Root: 1}, {Count: -1, Method: -2, Root: -3},
	renewalBy(1, 2, 7, 60, 2), renewalBy(1, 2, 7, 60, 3), renewalBy(1, 2, 7, 60, 2, 3), renewalBy(1, 2, 7, 60, 3, 2), renewalBy(1, 2, 7, 61, 2, 3), renewalBy(2, 2, 7, 60, 2, 3), renewalBy(1, 1, 7, 60, 2, 3), renewalBy(1, 2, 8, 60, 2, 3),
	renewalBy(1, 2, 7, 60, 1, 2, 3, 4), renewalBy(3, 1, math.MinInt, 10000, 1), renewalBy(1, 2, 7, 60, 5), renewalBy(1, 2, 7, -1, 2), renewalBy(1, 2, 7, 60, 1, 2, 3, 4, 5),
	pathRenewal(7, right(3)), pathRenewal(7, left(3)), pathRenewal(7, right(3), left(4)), pathRenewal(7, right(3), left(4), left(5), right(6)), pathRenewal(7, right(3), left(4), left(5), right(6), left(9)),
	{Count: 1, Method: 2, Root: 7, Path: []impl.Step{left(2), right(-1)}}, {Count: 1, Method: 2, Root: 7, Stamps: []impl.Stamp{{}}},
}

func checkRenewal(t *testing.T, r impl.Renewal, leaf int, want bool) {
	t.Helper()
	if got := impl.CheckRenewal(centuryKeys, centuryAuthorities, r, leaf); got != want {
		t.Errorf("CheckRenewal(%v, %d) = %t", r, leaf, got)
	}
	if got := renewalHoldsSlowly(centuryKeys, centuryAuthorities, r, leaf); got != want {
		t.Errorf("by its definition, CheckRenewal(%v, %d) is %t", r, leaf, got)
	}
}

func TestPiecesDigest(t *testing.T) {
	lists := [][]impl.Piece{nil, {}, {{}}, {piece(3, 5, 4)}, {piece(3, 5, 4), piece(6, 7)}, {piece(6, 7), piece(3, 5, 4)}, {piece(3, 5, 4), piece(3, 5, 4)}, sortedPieceList}
	for _, l := range lists {
		for _, method := range []int{0, 2, 99, -1, math.MinInt} {
			if got, want := impl.PiecesDigest(method, l), piecesDigestSlowly(method, l); got != want {
				t.Errorf("PiecesDigest(%d, %v) = %d, want %d", method, l, got, want)
			}
			for _, doc := range []int{0, 8, -1, impl.MaxValue} {
				for _, before := range []int{0, 9, -5} {
					if got, want := impl.LeafOf(method, doc, l, before), leafSlowly(method, doc, l, before); got != want {
						t.Errorf("LeafOf(%d, %d, %v, %d) = %d, want %d", method, doc, l, before, got, want)
					}
				}
			}
		}
	}
	if got := impl.PiecesDigest(2, nil); got != impl.DigestOf(2, []int{2}) {
		t.Errorf("PiecesDigest of no pieces = %d", got)
	}
	if got := impl.PiecesDigest(2, []impl.Piece{piece(3, 5, 4, 6)}); got != impl.DigestOf(2, []int{2, impl.DigestOf(2, []int{3, 5, 4, 6})}) {
		t.Errorf("PiecesDigest of one piece = %d", got)
	}
}

// A leaf is another one if anything that it covers is.
func TestLeafDependsOnAll(t *testing.T) {
	l := []impl.Piece{piece(3, 5, 4, 6), piece(1, 2, 3)}
	leaf := impl.LeafOf(2, 8, l, 9)
	others := [][]impl.Piece{
		nil, l[:1], l[1:], {l[1], l[0]}, {l[0], l[1], {}}, {piece(4, 5, 4, 6), l[1]}, {piece(3, 6, 4, 6), l[1]}, {piece(3, 5, 5, 6), l[1]}, {piece(3, 5, 4, 7), l[1]},
		{piece(3, 5, 4), l[1]}, {piece(3, 5, 4, 6, 0), l[1]}, {l[0], piece(1, 2, 4)}, {l[0], piece(1, 3, 3)},
	}
	for _, other := range others {
		if impl.LeafOf(2, 8, other, 9) == leaf || impl.PiecesDigest(2, other) == impl.PiecesDigest(2, l) {
			t.Errorf("%v and %v have one leaf", other, l)
		}
	}
	if impl.LeafOf(1, 8, l, 9) == leaf || impl.LeafOf(2, 7, l, 9) == leaf || impl.LeafOf(2, 8, l, 8) == leaf || impl.LeafOf(2, 9, l, 8) == leaf {
		t.Error("another method, document or renewal before has the same leaf")
	}
}

func TestRenewalDigest(t *testing.T) {
	seen := map[int]impl.Renewal{}
	for _, r := range someRenewals {
		for _, method := range []int{0, 2, 99, -1} {
			if got, want := impl.RenewalDigest(method, r), renewalDigestSlowly(method, r); got != want {
				t.Errorf("RenewalDigest(%d, %v) = %d, want %d", method, r, got, want)
			}
		}
		digest := impl.RenewalDigest(2, r)
		if other, ok := seen[digest]; ok {
			t.Errorf("%v and %v have one digest", r, other)
		}
		seen[digest] = r
	}
	a := impl.Renewal{Count: 1, Method: 2, Root: 3, Path: []impl.Step{right(4), left(5)}, Stamps: []impl.Stamp{{Authority: 6, Seq: 7, Time: 8, Digest: 9, Mark: 10}, {Authority: 11, Seq: 12, Time: 13, Digest: 14, Mark: 15}}}
	if got := impl.RenewalDigest(2, a); got != impl.DigestOf(2, []int{4, 1, 2, 3, 4, 0, 5, 1, 2, 103, 6, 7, 8, 9, 10, 103, 11, 12, 13, 14, 15}) {
		t.Errorf("RenewalDigest(2, %v) = %d", a, got)
	}
	if impl.RenewalDigest(2, impl.Renewal{Path: []impl.Step{}, Stamps: []impl.Stamp{}}) != impl.RenewalDigest(2, impl.Renewal{}) {
		t.Error("nil and empty lists have other digests")
	}
}

func TestCheckRenewal(t *testing.T) {
	good := renewalBy(1, 2, 7, 60, 2, 3)
	checkRenewal(t, good, 7, true)
	for _, leaf := range []int{6, 8, 0, -7, 7 + impl.Modulus, math.MinInt} {
		checkRenewal(t, good, leaf, false)
	}
	// What it says to cover, and when, is not checked here.
	for _, count := range []int{0, -1, 5, math.MinInt} {
		good.Count = count
		checkRenewal(t, good, 7, true)
	}
	// Without a path, the method does not matter.
	good.Method = 77
	checkRenewal(t, good, 7, true)
	good.Path, good.Method = []impl.Step{}, 2
	checkRenewal(t, good, 7, true)
	for _, root := range []int{8, -7, 7 + impl.Modulus, 0} {
		r := good
		r.Root = root
		checkRenewal(t, r, 7, false)
		checkRenewal(t, r, root, false)
	}
	checkRenewal(t, renewalBy(1, 2, -1, 60, 2), -1, true)
	checkRenewal(t, renewalBy(1, 2, math.MinInt, 60, 2), math.MinInt, true)
}

func TestCheckRenewalByPath(t *testing.T) {
	paths := [][]impl.Step{{right(3)}, {left(3)}, {right(3), left(4)}, {right(3), left(4), left(5)}, {right(3), left(4), left(5), right(6)}, {left(9), left(9), left(9), left(9)}}
	for _, path := range paths {
		r := pathRenewal(7, path...)
		checkRenewal(t, r, 7, true)
		checkRenewal(t, r, 8, false)
		for i := range path {
			other := copyRenewal(r)
			other.Path[i].Left = !other.Path[i].Left
			checkRenewal(t, other, 7, false)
			other = copyRenewal(r)
			other.Path[i].Digest++
			checkRenewal(t, other, 7, false)
			other = copyRenewal(r)
			other.Path = slices.Delete(other.Path, i, i+1)
			checkRenewal(t, other, 7, false)
		}
		other := copyRenewal(r)
		other.Path = nil
		checkRenewal(t, other, 7, false)
		other = copyRenewal(r)
		other.Method = 3
		checkRenewal(t, other, 7, false)
		other = copyRenewal(r)
		other.Root++
		other.Stamps = stampsBy(60, other.Root, 2, 3)
		checkRenewal(t, other, 7, false)
	}
	// Five steps are too many, although they lead to the root.
	checkRenewal(t, pathRenewal(7, right(3), left(4), left(5), right(6), left(9)), 7, false)
	checkRenewal(t, pathRenewal(7, slices.Repeat([]impl.Step{left(3)}, 50)...), 7, false)
}

func TestCheckRenewalByStamps(t *testing.T) {
	with := func(stamps ...impl.Stamp) impl.Renewal {
		return impl.Renewal{Count: 1, Method: 2, Root: 7, Stamps: stamps}
	}
	two, three := stampBy(2, 5, 60, 7), stampBy(3, 6, 70, 7)
	checkRenewal(t, with(), 7, false)
	checkRenewal(t, impl.Renewal{Method: 2, Root: 7, Stamps: []impl.Stamp{}}, 7, false)
	checkRenewal(t, with(two), 7, true)
	checkRenewal(t, with(two, three), 7, true)
	checkRenewal(t, with(stampBy(1, 0, 5, 7), two, three, stampBy(4, 0, 10000, 7)), 7, true)
	// Out of order, or of one authority twice.
	checkRenewal(t, with(three, two), 7, false)
	checkRenewal(t, with(two, two), 7, false)
	checkRenewal(t, with(two, stampBy(2, 6, 61, 7)), 7, false)
	checkRenewal(t, with(stampBy(1, 0, 5, 7), three, two), 7, false)
	checkRenewal(t, with(two, stampBy(1, 0, 5, 7), three), 7, false)
	// Of another digest, or one that does not check, at each place.
	one, four := stampBy(1, 5, 60, 7), stampBy(4, 6, 70, 7)
	for i := range 4 {
		for _, change := range []func(s *impl.Stamp){
			func(s *impl.Stamp) { s.Mark++ }, func(s *impl.Stamp) { s.Mark-- }, func(s *impl.Stamp) { s.Seq++ }, func(s *impl.Stamp) { s.Time-- }, func(s *impl.Stamp) { s.Digest++ },
			func(s *impl.Stamp) { *s = stampBy(s.Authority, 5, 60, 8) }, func(s *impl.Stamp) { *s = stampBy(s.Authority, -1, 60, 7) }, func(s *impl.Stamp) { *s = stampBy(s.Authority, 5, -1, 7) }, func(s *impl.Stamp) { *s = stampBy(s.Authority, 5, 10001, 7) },
			func(s *impl.Stamp) { *s = impl.Stamp{Authority: s.Authority} }, func(s *impl.Stamp) { *s = stampBy(s.Authority, 5, 60, 7+impl.Modulus) },
		} {
			r := with(one, two, three, four)
			checkRenewal(t, r, 7, true)
			change(&r.Stamps[i])
			checkRenewal(t, r, 7, false)
		}
	}
	// An authority without a key, and none at all.
	checkRenewal(t, with(two, stampBy(5, 5, 60, 7)), 7, false)
	checkRenewal(t, with(two, stampBy(6, 5, 60, 7)), 7, false)
	checkRenewal(t, with(stampBy(-1, 5, 60, 7), two), 7, false)
}

// There can be as many stamps as a valid list has authorities, and not one more, even if there are more authorities.
func TestMostStamps(t *testing.T) {
	authorities := []impl.Authority{}
	for id := range 9 {
		authorities = append(authorities, authority(id, 31+id%4, id))
	}
	for n := range 9 {
		r := impl.Renewal{Count: 1, Method: 2, Root: 7}
		for id := range n {
			s, _ := stampSlowly(centuryKeys, authorities, stamp(id, 3, 60, 7))
			r.Stamps = append(r.Stamps, s)
		}
		if got := impl.CheckRenewal(centuryKeys, authorities, r, 7); got != (n >= 1 && n <= 6) {
			t.Errorf("CheckRenewal with %d stamps = %t", n, got)
		}
	}
}

func TestCheckRenewalAsDefined(t *testing.T) {
	for _, r := range someRenewals {
		for _, leaf := range []int{0, 7, 8, -3, math.MinInt} {
			checkRenewal(t, r, leaf, renewalHoldsSlowly(centuryKeys, centuryAuthorities, r, leaf))
			if impl.CheckRenewal(nil, centuryAuthorities, r, leaf) || impl.CheckRenewal(centuryKeys, nil, r, leaf) {
				t.Errorf("CheckRenewal(%v, %d) without keys or authorities", r, leaf)
			}
		}
	}
}

func checkRenewalSpan(t *testing.T, l []impl.Authority, r impl.Renewal, liars int, want impl.Span, wantOk bool) {
	t.Helper()
	if got, ok := impl.RenewalSpan(l, r, liars); got != want || ok != wantOk {
		t.Errorf("RenewalSpan(%v, %v, %d) = %v, %t, want %v, %t", l, r, liars, got, ok, want, wantOk)
	}
}

func TestRenewalSpan(t *testing.T) {
	with := func(stamps ...impl.Stamp) impl.Renewal { return impl.Renewal{Stamps: stamps} }
	three := with(stamp(1, 0, 60, 0), stamp(2, 0, 61, 0), stamp(3, 0, 62, 0))
	cases := []struct {
		r     impl.Renewal
		liars int
		want  impl.Span
		ok    bool
	}{
		{with(stamp(1, 0, 60, 0)), 0, span(59, 61), true}, {with(stamp(1, 0, 60, 0)), 1, span(0, 0), false}, {with(stamp(1, 0, 60, 0)), -1, span(0, 0), false},
		{with(), 0, span(0, 0), false}, {with(), -1, span(0, 0), false}, {with(), 1, span(0, 0), false},
		{three, 0, span(0, 0), false}, {three, 1, span(60, 62), true}, {three, 2, span(59, 62), true}, {three, 3, span(0, 0), false}, {three, 4, span(0, 0), false}, {three, -1, span(0, 0), false}, {three, math.MinInt, span(0, 0), false},
		{with(stamp(3, 0, 60, 0), stamp(3, 0, 60, 0)), 0, span(60, 60), true}, {with(stamp(4, 0, 3, 0)), 0, span(0, 8), true}, {with(stamp(4, 0, 9998, 0)), 0, span(9993, 10000), true},
		// One of them has no span, even if it could be the liar's.
		{with(stamp(2, 0, 60, 0), stamp(6, 0, 60, 0)), 1, span(0, 0), false}, {with(stamp(2, 0, 60, 0), stamp(3, 0, -1, 0)), 1, span(0, 0), false}, {with(stamp(2, 0, 10001, 0), stamp(3, 0, 60, 0)), 1, span(0, 0), false},
		{with(stamp(2, 0, 60, 0), stamp(3, 0, 60, 0), stamp(0, 0, 60, 0)), 1, span(0, 0), false},
		// The key need not be there, nor need the stamps be in order or right.
		{with(stamp(5, 0, 60, 0)), 0, span(58, 62), true}, {with(stamp(3, -9, 60, 4), stamp(2, 7, 60, 5)), 0, span(60, 60), true},
	}
	for _, c := range cases {
		checkRenewalSpan(t, centuryAuthorities, c.r, c.liars, c.want, c.ok)
		checkRenewalSpan(t, nil, c.r, c.liars, span(0, 0), false)
		// Only the stamps matter.
		c.r.Count, c.r.Method, c.r.Root, c.r.Path = 9, 9, 9, []impl.Step{left(9)}
		checkRenewalSpan(t, centuryAuthorities, c.r, c.liars, c.want, c.ok)
	}
	checkRenewalSpan(t, []impl.Authority{authority(1, 31, -1), authority(1, 31, 1)}, with(stamp(1, 0, 60, 0)), 0, span(0, 0), false)
	for _, r := range someRenewals {
		for liars := -1; liars <= 6; liars++ {
			want, ok := agreedStampsSlowly(centuryAuthorities, r.Stamps, liars)
			checkRenewalSpan(t, centuryAuthorities, r, liars, want, ok)
		}
	}
}

func TestRenewalBreak(t *testing.T) {
	with := func(method int, ids ...int) impl.Renewal { return renewalBy(1, method, 7, 60, ids...) }
	cases := []struct {
		r    impl.Renewal
		want int
	}{
		{with(1), 50}, {with(2), 120}, {with(3), impl.Never}, {with(4), 0}, {with(-1), 0}, {with(0), 0},
		{with(1, 1), 50}, {with(2, 1), 50}, {with(3, 1), 50}, {with(1, 2), 50}, {with(1, 4), 50}, {with(2, 2), 120}, {with(2, 3), 120}, {with(3, 2), 120}, {with(2, 4), 120}, {with(3, 4), impl.Never},
		{with(3, 1, 2, 3, 4), 50}, {with(3, 4, 3, 2, 1), 50}, {with(3, 4, 4, 2), 120}, {with(3, 2, 3, 4), 120}, {with(3, 4, 4), impl.Never}, {with(2, 2, 2), 120},
		// A key that is not there, at each place, or no such authority.
		{with(3, 5), 0}, {with(3, 5, 4), 0}, {with(3, 4, 5), 0}, {with(3, 4, 5, 1), 0}, {with(3, 6), 0}, {with(3, 4, -1), 0}, {with(4, 4), 0},
		// Only the stamps' authorities matter, not their marks or times.
		{impl.Renewal{Method: 3, Stamps: []impl.Stamp{{Authority: 2, Seq: -5, Time: -5, Digest: 5}, {Authority: 4}}}, 120},
	}
	for _, c := range cases {
		if got := impl.RenewalBreak(centuryKeys, centuryAuthorities, centuryMethods, c.r); got != c.want {
			t.Errorf("RenewalBreak(%v) = %d, want %d", c.r, got, c.want)
		}
		if got := impl.RenewalBreak(centuryKeys, centuryAuthorities, nil, c.r); got != 0 {
			t.Errorf("RenewalBreak(%v) without methods = %d", c.r, got)
		}
		if got := impl.RenewalBreak(nil, centuryAuthorities, centuryMethods, c.r); len(c.r.Stamps) > 0 && got != 0 {
			t.Errorf("RenewalBreak(%v) without keys = %d", c.r, got)
		}
	}
	for _, r := range someRenewals {
		if got, want := impl.RenewalBreak(centuryKeys, centuryAuthorities, centuryMethods, r), renewalBreakSlowly(centuryKeys, centuryAuthorities, centuryMethods, r); got != want {
			t.Errorf("RenewalBreak(%v) = %d, want %d", r, got, want)
		}
	}
}

// Of lists that are not valid, the first of equal numbers counts, and what is less than 0 is the least all the same.
func TestRenewalBreakOfOddLists(t *testing.T) {
	keys := []impl.Key{key(31, 1, 7, 0, 5), key(31, 1, 3, 0, 5), key(0, 1, 11, 0, 5), key(32, 1, 50, 0, 5)}
	authorities := []impl.Authority{authority(1, 31, 0), authority(2, 32, 0), authority(1, 32, 0)}
	for _, r := range []impl.Renewal{{Method: 7}, {Method: 3, Stamps: []impl.Stamp{{Authority: 1}}}, {Method: 3, Stamps: []impl.Stamp{{Authority: 1}, {Authority: 2}}}, {Method: 11}, {Method: 12}, {Method: 12, Stamps: []impl.Stamp{{Authority: 3}}}} {
		if got, want := impl.RenewalBreak(keys, authorities, oddMethods, r), renewalBreakSlowly(keys, authorities, oddMethods, r); got != want {
			t.Errorf("RenewalBreak(%v) = %d, want %d", r, got, want)
		}
	}
	// A key that is not there has no method, not even the one with the Id 0.
	if got := impl.RenewalBreak(keys, authorities, []impl.Method{method(0, 0, 5, 30), method(12, 0, 5, 40)}, impl.Renewal{Method: 12, Stamps: []impl.Stamp{{Authority: 1}}}); got != 0 {
		t.Errorf("RenewalBreak without the method of the key = %d", got)
	}
	for _, stamps := range [][]impl.Stamp{{{Authority: 1}}, {{Authority: 3}}} {
		if got := impl.RenewalBreak(nil, authorities, []impl.Method{method(0, 0, 5, 30), method(12, 0, 5, 40)}, impl.Renewal{Method: 12, Stamps: stamps}); got != 0 {
			t.Errorf("RenewalBreak without the key = %d", got)
		}
	}
	// The key of an authority that is not there is 0, and here there is such a key.
	if got := impl.RenewalBreak(keys, authorities, []impl.Method{method(11, 0, 5, 30), method(12, 0, 5, 40)}, impl.Renewal{Method: 12, Stamps: []impl.Stamp{{Authority: 3}}}); got != 30 {
		t.Errorf("RenewalBreak by the key 0 = %d", got)
	}
}

func TestEqualRenewals(t *testing.T) {
	for i, a := range someRenewals {
		for j, b := range someRenewals {
			if got := impl.EqualRenewals(a, copyRenewal(b)); got != (i == j) {
				t.Errorf("EqualRenewals(%v, %v) = %t", a, b, got)
			}
		}
	}
	a := impl.Renewal{Count: 1, Method: 2, Root: 3, Path: []impl.Step{left(4), right(5)}, Stamps: []impl.Stamp{stampBy(2, 5, 6, 7), stampBy(3, 5, 6, 7)}}
	changes := []func(r *impl.Renewal){
		func(r *impl.Renewal) { r.Count++ }, func(r *impl.Renewal) { r.Method++ }, func(r *impl.Renewal) { r.Root++ },
		func(r *impl.Renewal) { r.Path[1].Digest++ }, func(r *impl.Renewal) { r.Path[1].Left = true }, func(r *impl.Renewal) { r.Path[0].Left = false }, func(r *impl.Renewal) { r.Path = r.Path[:1] }, func(r *impl.Renewal) { r.Path = append(r.Path, left(0)) },
		func(r *impl.Renewal) { r.Stamps[1].Authority++ }, func(r *impl.Renewal) { r.Stamps[1].Seq++ }, func(r *impl.Renewal) { r.Stamps[1].Time++ }, func(r *impl.Renewal) { r.Stamps[0].Digest++ }, func(r *impl.Renewal) { r.Stamps[0].Mark++ },
		func(r *impl.Renewal) { r.Stamps = r.Stamps[:1] }, func(r *impl.Renewal) { r.Stamps = append(r.Stamps, impl.Stamp{}) }, func(r *impl.Renewal) { slices.Reverse(r.Stamps) }, func(r *impl.Renewal) { slices.Reverse(r.Path) },
	}
	for i, change := range changes {
		b := copyRenewal(a)
		if !impl.EqualRenewals(a, b) {
			t.Fatalf("EqualRenewals(%v, %v) = false", a, b)
		}
		change(&b)
		if impl.EqualRenewals(a, b) || impl.EqualRenewals(b, a) {
			t.Errorf("change %d: EqualRenewals(%v, %v) = true", i, a, b)
		}
	}
	if !impl.EqualRenewals(impl.Renewal{}, impl.Renewal{Path: []impl.Step{}, Stamps: []impl.Stamp{}}) {
		t.Error("nil and empty lists differ")
	}
}

func TestRenewalsLeaveArgumentsAlone(t *testing.T) {
	keys, authorities, methods := spareKeys(centuryKeys), spareAuthorities(centuryAuthorities), spareMethods(centuryMethods)
	for _, x := range someRenewals {
		r := spareRenewal(x)
		before := copyRenewal(wholeRenewal(r))
		calls := []func(){
			func() { impl.RenewalDigest(2, r) }, func() { impl.CheckRenewal(keys, authorities, r, 7) }, func() { impl.RenewalSpan(authorities, r, 1) },
			func() { impl.RenewalBreak(keys, authorities, methods, r) }, func() { impl.EqualRenewals(r, r) }, func() { impl.EqualRenewals(r, impl.Renewal{}) },
		}
		checkUnchanged(t, "renewals", keys, calls...)
		checkUnchanged(t, "renewals", authorities, calls...)
		checkUnchanged(t, "renewals", methods, calls...)
		if !sameRenewal(before, wholeRenewal(r)) {
			t.Errorf("a function writes into the renewal %v", x)
		}
	}
	for n := range len(sortedPieceList) {
		l := []impl.Piece{}
		for _, p := range sortedPieceList[:n] {
			l = append(l, sparePiece(p))
		}
		checkPiecesUnchanged(t, "PiecesDigest", l, func() { impl.PiecesDigest(2, l) }, func() { impl.LeafOf(2, 3, l, 4) })
	}
}

// checkPiecesUnchanged checks that no call writes into the numbers of the pieces, also behind their ends, or into the list.
func checkPiecesUnchanged(t *testing.T, name string, l []impl.Piece, calls ...func()) {
	t.Helper()
	whole := func() []impl.Piece {
		all := []impl.Piece{}
		for _, p := range l[:cap(l)] {
			all = append(all, piece(p.Key, p.Mark, slices.Clone(p.Ints[:cap(p.Ints)])...))
		}
		return all
	}
	before := whole()
	for i, call := range calls {
		call()
		if !slices.EqualFunc(before, whole(), samePiece) {
			t.Fatalf("call %d of %s writes into its argument", i, name)
		}
	}
}
