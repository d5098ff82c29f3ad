package tests

import (
	"math"
	"slices"
	"testing"

	"loop.example/g00597/impl"
)

// linkHoldsSlowly tells by the definition alone what LinkHolds returns.
func linkHoldsSlowly(f impl.Frame, s impl.Strand, k int) bool {
	if k < 0 || k >= len(s.Chain) {
		return false
	}
	end := renewalBreakSlowly(f.Keys, f.Authorities, f.Methods, s.Chain[k])
	if k == len(s.Chain)-1 {
		return f.Now < end
	}
	next, ok := agreedStampsSlowly(f.Authorities, s.Chain[k+1].Stamps, f.Liars)
	return ok && next.To < end
}

// isKeptSlowly tells whether renewal k and all later ones prove something.
func isKeptSlowly(f impl.Frame, s impl.Strand, docs []int, k int) bool {
	for i := k; i < len(s.Chain); i++ {
		_, ok := agreedStampsSlowly(f.Authorities, s.Chain[i].Stamps, f.Liars)
		if !ok || !renewalHoldsSlowly(f.Keys, f.Authorities, s.Chain[i], leafAtSlowly(s, docs, i)) || !linkHoldsSlowly(f, s, i) {
			return false
		}
	}
	return true
}

// boundSlowly tells by the definition alone what BoundOf returns.
func boundSlowly(f impl.Frame, s impl.Strand, docs []int, p int) int {
	bound := f.Now
	for j, r := range s.Chain {
		if r.Count > p && isKeptSlowly(f, s, docs, j) {
			made, _ := agreedStampsSlowly(f.Authorities, r.Stamps, f.Liars)
			bound = min(bound, made.To)
		}
	}
	return bound
}

func pieceBoundSlowly(f impl.Frame, s impl.Strand, docs []int, p impl.Piece) int {
	for i := range s.Pieces {
		if samePiece(s.Pieces[i], p) {
			return boundSlowly(f, s, docs, i)
		}
	}
	return f.Now
}

func firstKeptSlowly(f impl.Frame, s impl.Strand, docs []int) int {
	first := len(s.Chain)
	for first > 0 && isKeptSlowly(f, s, docs, first-1) {
		first--
	}
	return first
}

// checkStrand checks all that is told of a strand, and that nothing is later than now.
func checkStrand(t *testing.T, f impl.Frame, s impl.Strand, docs []int) {
	t.Helper()
	for _, k := range []int{-1, 0, 1, 2, 3, len(s.Chain) - 1, len(s.Chain), math.MinInt, math.MaxInt} {
		if got, want := impl.LinkHolds(f, s, k), linkHoldsSlowly(f, s, k); got != want {
			t.Errorf("LinkHolds(%v, %v, %d) = %t", f, s, k, got)
		}
	}
	for _, p := range []int{-1, 0, 1, 2, len(s.Pieces) - 1, len(s.Pieces), math.MaxInt, -5, math.MinInt} {
		if got, want := impl.BoundOf(f, s, docs, p), boundSlowly(f, s, docs, p); got != want || got > f.Now {
			t.Errorf("BoundOf(%v, %v, %v, %d) = %d, want %d", f, s, docs, p, got, want)
		}
	}
	for _, p := range append(slices.Clone(s.Pieces), piece(-1, -1), impl.Piece{}) {
		if got, want := impl.PieceBound(f, s, docs, p), pieceBoundSlowly(f, s, docs, p); got != want || got > f.Now {
			t.Errorf("PieceBound(%v, %v, %v, %v) = %d, want %d", f, s, docs, p, got, want)
		}
	}
	first := firstKeptSlowly(f, s, docs)
	if got := impl.FirstKept(f, s, docs); got != first {
		t.Errorf("FirstKept(%v, %v, %v) = %d, want %d", f, s, docs, got, first)
	}
	if got := impl.IsUnbroken(f, s, docs); got != (first == 0 && len(s.Chain) > 0) {
		t.Errorf("IsUnbroken(%v, %v, %v) = %t", f, s, docs, got)
	}
}

// checkKept checks the first renewal that is kept, the bounds of the pieces from the first one on, and all the rest.
func checkKept(t *testing.T, f impl.Frame, s impl.Strand, kept int, bounds ...int) {
	t.Helper()
	docs := docsSlowly(s, threeParts())
	if got := impl.FirstKept(f, s, docs); got != kept {
		t.Errorf("now %d: FirstKept(%v) = %d, want %d", f.Now, s, got, kept)
	}
	for p, want := range bounds {
		if got := impl.BoundOf(f, s, docs, p); got != want {
			t.Errorf("now %d: BoundOf(%v, %d) = %d, want %d", f.Now, s, p, got, want)
		}
	}
	checkStrand(t, f, s, docs)
}

// covering returns a strand with three pieces and these renewals over threeParts.
func covering(renewals ...renewed) impl.Strand {
	return strandWith(threeParts(), numbered(3), renewals...)
}

func TestIsFrame(t *testing.T) {
	f := centuryFrame(90, 1)
	if !impl.IsFrame(f) || !impl.IsFrame(impl.Frame{}) {
		t.Error("a frame is not valid")
	}
	for i, change := range []func(f *impl.Frame){
		func(f *impl.Frame) { f.Keys = oddKeys }, func(f *impl.Frame) { f.Keys = append(twelveKeys(), key(99, 1, 1, 0, 5)) }, func(f *impl.Frame) { f.Keys = []impl.Key{{}} }, func(f *impl.Frame) { f.Keys = append(slices.Clone(f.Keys), f.Keys[0]) },
		func(f *impl.Frame) { f.Authorities = oddAuthorities }, func(f *impl.Frame) { f.Authorities = append(sixAuthorities(), authority(99, 31, 1)) }, func(f *impl.Frame) { f.Authorities = []impl.Authority{{}} },
		func(f *impl.Frame) { f.Methods = oddMethods }, func(f *impl.Frame) { f.Methods = append(slices.Clone(f.Methods), f.Methods[0]) }, func(f *impl.Frame) { f.Methods = []impl.Method{{}} },
	} {
		bad := f
		change(&bad)
		if impl.IsFrame(bad) {
			t.Errorf("change %d: IsFrame(%v) = true", i, bad)
		}
	}
	for n := -2; n <= 10002; n++ {
		now, liars := f, f
		now.Now, liars.Liars = n, n
		if impl.IsFrame(now) != (n >= 0 && n <= 10000) || impl.IsFrame(liars) != (n >= 0 && n <= 6) {
			t.Errorf("IsFrame with Now %d = %t, and with Liars %d = %t", n, impl.IsFrame(now), n, impl.IsFrame(liars))
		}
	}
	for _, n := range []int{math.MinInt, math.MaxInt} {
		now, liars := f, f
		now.Now, liars.Liars = n, n
		if impl.IsFrame(now) || impl.IsFrame(liars) {
			t.Errorf("IsFrame with %d", n)
		}
	}
	f.Keys, f.Authorities, f.Methods = twelveKeys(), sixAuthorities(), eightMethods()
	if !impl.IsFrame(f) {
		t.Error("the greatest frame is not valid")
	}
}

func TestLinkHoldsUntilNow(t *testing.T) {
	// The method of the key of 1 is broken at 50, and that of the renewal at 120.
	for now, want := range map[int]bool{0: true, 48: true, 49: true, 50: false, 51: false, 119: false, 10000: false, -1: true, 20000: false} {
		s := covering(renewAt(3, 2, 20, 1))
		if got := impl.LinkHolds(centuryFrame(now, 0), s, 0); got != want {
			t.Errorf("now %d: LinkHolds = %t", now, got)
		}
		checkStrand(t, centuryFrame(now, 0), s, docsSlowly(s, threeParts()))
	}
	for now, want := range map[int]bool{118: true, 119: true, 120: false, 121: false} {
		if got := impl.LinkHolds(centuryFrame(now, 0), covering(renewAt(3, 2, 20, 2, 3)), 0); got != want {
			t.Errorf("now %d: LinkHolds = %t", now, got)
		}
	}
	if !impl.LinkHolds(centuryFrame(10000, 0), covering(renewAt(3, 3, 95, 4)), 0) {
		t.Error("a renewal by methods that are never broken does not hold")
	}
	for _, s := range []impl.Strand{covering(renewAt(3, 2, 20, 5)), covering(renewAt(3, 4, 20, 2)), covering(renewAt(3, 2, 20, 9))} {
		if impl.LinkHolds(centuryFrame(20, 0), s, 0) {
			t.Errorf("a renewal without a key, a method or an authority holds: %v", s)
		}
	}
	for _, k := range []int{-1, 1, 2, math.MinInt, math.MaxInt} {
		if impl.LinkHolds(centuryFrame(20, 0), covering(renewAt(3, 2, 20, 2)), k) || impl.LinkHolds(centuryFrame(20, 0), covering(), k) || impl.LinkHolds(centuryFrame(20, 0), covering(), 0) {
			t.Errorf("renewal %d holds", k)
		}
	}
}

func TestLinkHoldsUntilTheNextOne(t *testing.T) {
	f := centuryFrame(115, 0)
	// The next one came at the latest one time after its stamp by 2, and at the time of its stamp by 3.
	for time, want := range map[int]bool{47: true, 48: true, 49: false, 50: false, 51: false, 90: false} {
		if got := impl.LinkHolds(f, covering(renewAt(3, 2, 20, 1), renewAt(3, 2, time, 2)), 0); got != want {
			t.Errorf("the next one at %d: LinkHolds = %t", time, got)
		}
	}
	for time, want := range map[int]bool{48: true, 49: true, 50: false, 51: false} {
		if got := impl.LinkHolds(f, covering(renewAt(3, 2, 20, 1), renewAt(3, 2, time, 2, 3)), 0); got != want {
			t.Errorf("the next one at %d: LinkHolds = %t", time, got)
		}
	}
	// It need not be right, or later, but it must have a span.
	odd := covering(renewAt(3, 2, 40, 1), renewAt(1, 2, 10, 2))
	if !impl.LinkHolds(f, odd, 0) {
		t.Error("a renewal that came before does not hold the one before")
	}
	odd.Chain[1].Root++
	if !impl.LinkHolds(f, odd, 0) {
		t.Error("a renewal that does not check does not hold the one before")
	}
	for _, stamps := range [][]impl.Stamp{nil, {}, stampsBy(30, 7, 9), stampsBy(-1, 7, 2), stampsBy(10001, 7, 2), {stampBy(2, 0, 30, 7), stampBy(3, 0, 40, 7)}} {
		odd.Chain[1].Stamps = stamps
		if impl.LinkHolds(f, odd, 0) {
			t.Errorf("LinkHolds with the stamps %v", stamps)
		}
		checkStrand(t, f, odd, docsSlowly(odd, threeParts()))
	}
	// With a liar, the span is longer.
	for time, want := range map[int]bool{48: true, 49: false} {
		if got := impl.LinkHolds(centuryFrame(115, 1), covering(renewAt(3, 2, 20, 1), renewAt(3, 2, time, 2, 3)), 0); got != want {
			t.Errorf("the next one at %d, with a liar: LinkHolds = %t", time, got)
		}
	}
}

func TestBounds(t *testing.T) {
	f := centuryFrame(90, 0)
	checkKept(t, f, covering(), 0, 90, 90, 90, 90)
	checkKept(t, f, covering(renewAt(2, 2, 20, 3)), 0, 20, 20, 90, 90)
	checkKept(t, f, covering(renewAt(2, 2, 20, 2)), 0, 21, 21, 90, 90)
	checkKept(t, f, covering(renewAt(1, 2, 20, 3), renewAt(3, 2, 30, 3)), 0, 20, 30, 30, 90)
	checkKept(t, f, covering(renewAt(1, 2, 20, 3), renewAt(2, 2, 30, 3), renewAt(3, 2, 40, 3)), 0, 20, 30, 40, 90)
	// The least bound counts, also if the renewal that has it is not the first one.
	checkKept(t, f, covering(renewAt(1, 2, 40, 3), renewAt(3, 2, 30, 3)), 0, 30, 30, 30, 90)
	// A renewal beyond now tells nothing new.
	checkKept(t, f, covering(renewAt(3, 2, 100, 3)), 0, 90, 90, 90, 90)
	checkKept(t, centuryFrame(100, 0), covering(renewAt(3, 2, 100, 2)), 0, 100, 100, 100)
	checkKept(t, centuryFrame(119, 0), covering(renewAt(3, 2, 20, 3)), 0, 20, 20, 20, 119)
	checkKept(t, centuryFrame(120, 0), covering(renewAt(3, 2, 20, 3)), 1, 120, 120, 120)
	checkKept(t, centuryFrame(121, 0), covering(renewAt(3, 2, 20, 3)), 1, 121, 121, 121)
}

// A renewal that came on the day of a break came too late.
func TestRenewalsAroundABreak(t *testing.T) {
	f := centuryFrame(90, 0)
	checkKept(t, f, covering(renewAt(1, 2, 20, 1, 3), renewAt(3, 2, 49, 3)), 0, 20, 49, 49)
	checkKept(t, f, covering(renewAt(1, 2, 20, 1, 3), renewAt(3, 2, 50, 3)), 1, 50, 50, 50)
	checkKept(t, f, covering(renewAt(1, 2, 20, 1, 3), renewAt(3, 2, 51, 3)), 1, 51, 51, 51)
	checkKept(t, f, covering(renewAt(1, 1, 20, 3), renewAt(3, 2, 49, 3)), 0, 20, 49, 49)
	checkKept(t, f, covering(renewAt(1, 1, 20, 3), renewAt(3, 2, 50, 3)), 1, 50, 50, 50)
	checkKept(t, f, covering(renewAt(1, 2, 20, 3), renewAt(3, 1, 30, 3)), 2, 90, 90, 90)
	// Before and after two breaks.
	late := centuryFrame(5000, 0)
	checkKept(t, late, covering(renewAt(1, 1, 20, 1), renewAt(2, 2, 45, 3), renewAt(3, 3, 119, 4)), 2, 124, 124, 124)
	checkKept(t, late, covering(renewAt(1, 1, 20, 1), renewAt(2, 2, 45, 3), renewAt(3, 3, 114, 4)), 0, 21, 45, 119)
	checkKept(t, late, covering(renewAt(1, 1, 20, 1), renewAt(2, 2, 50, 3), renewAt(3, 3, 114, 4)), 1, 50, 50, 119)
}

// What is before a gap does not count.
func TestGapsInTheChain(t *testing.T) {
	f := centuryFrame(90, 0)
	chain := []renewed{renewAt(1, 2, 20, 3), renewAt(2, 2, 30, 3), renewAt(3, 2, 40, 3), renewAt(3, 2, 50, 3)}
	checkKept(t, f, covering(chain...), 0, 20, 30, 40, 90)
	for k, bounds := range [][]int{{30, 30, 40}, {40, 40, 40}, {50, 50, 50}, {90, 90, 90}} {
		for _, spoil := range []func(r *impl.Renewal){
			func(r *impl.Renewal) { r.Stamps[0].Mark++ }, func(r *impl.Renewal) { r.Stamps = nil }, func(r *impl.Renewal) { r.Stamps[0].Time-- }, func(r *impl.Renewal) { r.Path = []impl.Step{left(5)} },
			func(r *impl.Renewal) { r.Root++ }, func(r *impl.Renewal) { r.Count = 4 }, func(r *impl.Renewal) { r.Count-- }, func(r *impl.Renewal) { r.Stamps = append(r.Stamps, r.Stamps[0]) },
		} {
			spoiled := slices.Clone(chain)
			spoiled[k].spoil = spoil
			checkKept(t, f, covering(spoiled...), k+1, bounds...)
		}
		s := covering(chain...)
		docs := docsSlowly(s, threeParts())
		docs[k] = 5
		if got := impl.FirstKept(f, s, docs); got != k+1 {
			t.Errorf("FirstKept with another digest at %d = %d", k, got)
		}
		checkStrand(t, f, s, docs)
		// A renewal that is changed later is another one than the next one covers.
		s.Chain[k].Stamps = stampsBy(25, s.Chain[k].Root, 2, 3)
		checkKept(t, f, s, []int{2, 3, 4, 0}[k])
	}
	// The link does not hold in the middle only: 1 was broken before the third renewal.
	checkKept(t, f, covering(renewAt(1, 2, 20, 3), renewAt(2, 2, 30, 1), renewAt(3, 2, 60, 3)), 2, 60, 60, 60)
	// One renewal has no span, because two authorities do not agree.
	split := renewAt(2, 2, 30, 2, 3)
	split.spoil = func(r *impl.Renewal) { r.Stamps[1] = stampBy(3, 0, 40, r.Root) }
	checkKept(t, f, covering(renewAt(1, 2, 20, 3), split, renewAt(3, 2, 60, 3)), 2, 60, 60, 60)
	checkKept(t, centuryFrame(90, 1), covering(renewAt(1, 2, 20, 2, 3), split, renewAt(3, 2, 60, 2, 3)), 0, 21, 40, 61)
}

func TestBoundsOfOtherDocuments(t *testing.T) {
	f, s := centuryFrame(90, 0), covering(renewAt(1, 2, 20, 3), renewAt(3, 1, 30, 3), renewAt(3, 2, 40, 3))
	docs := docsSlowly(s, threeParts())
	checkStrand(t, f, s, docs)
	other, _ := impl.ReplacePart(threeParts(), 1, "another part")
	for _, bad := range [][]int{docsSlowly(s, other), nil, {}, docs[:2], append(slices.Clone(docs), 5), make([]int, 3), {-1, -1, -1}} {
		if got := impl.FirstKept(f, s, bad); got != 3 || impl.BoundOf(f, s, bad, 0) != 90 || impl.PieceBound(f, s, bad, s.Pieces[0]) != 90 || impl.IsUnbroken(f, s, bad) {
			t.Errorf("FirstKept with the digests %v = %d", bad, got)
		}
		checkStrand(t, f, s, bad)
	}
	if impl.IsUnbroken(f, covering(), nil) || impl.IsUnbroken(f, covering(), []int{5}) || impl.FirstKept(f, covering(), []int{5}) != 0 {
		t.Error("an empty chain is unbroken")
	}
}

// A leaf that there is not is -1 by the definition, so that a renewal of the root -1 covers it.
func TestRenewalOfALeafThatThereIsNot(t *testing.T) {
	f := centuryFrame(90, 0)
	s := impl.Strand{Pieces: numbered(3), Chain: []impl.Renewal{renewalBy(4, 2, -1, 20, 3)}}
	for _, docs := range [][]int{{5}, nil, {5, 6}} {
		checkFault(t, s, docs, 1)
		if got := impl.BoundOf(f, s, docs, 0); got != 20 || !impl.IsUnbroken(f, s, docs) {
			t.Errorf("BoundOf with the digests %v = %d", docs, got)
		}
		checkStrand(t, f, s, docs)
	}
	// With such a Count, no strand is valid; with another one, there is a leaf, unless there are no digests for it.
	checkIsStrand(t, s, false)
	s.Chain[0].Count = 3
	checkFault(t, s, []int{5}, 0)
	checkFault(t, s, nil, 1)
}

func TestPieceBound(t *testing.T) {
	f := centuryFrame(90, 0)
	s := covering(renewAt(1, 2, 20, 3), renewAt(2, 2, 30, 3))
	docs := docsSlowly(s, threeParts())
	for p, want := range []int{20, 30, 90} {
		if got := impl.PieceBound(f, s, docs, s.Pieces[p]); got != want {
			t.Errorf("PieceBound of piece %d = %d, want %d", p, got, want)
		}
	}
	for _, p := range []impl.Piece{{}, piece(0, 5, 103, 0), piece(1, 5, 103, 0, 4), piece(0, 6, 103, 0, 4)} {
		if got := impl.PieceBound(f, s, docs, p); got != 90 {
			t.Errorf("PieceBound of %v, which is not there, = %d", p, got)
		}
	}
	// Of two equal ones, it is the first one.
	s.Pieces[2] = copyPiece(s.Pieces[0])
	if got := impl.PieceBound(f, s, docs, s.Pieces[2]); got != 20 {
		t.Errorf("PieceBound of a piece that is there twice = %d", got)
	}
	// No index is less than the first one: before it, all renewals count.
	if got := impl.BoundOf(f, s, docs, -1); got != 20 {
		t.Errorf("BoundOf the index -1 = %d", got)
	}
}

// Frames that are not valid are used as they are.
func TestBoundsInOddFrames(t *testing.T) {
	s := covering(renewAt(1, 2, 20, 1, 2, 3), renewAt(3, 2, 30, 2, 3))
	for liars := -2; liars <= 7; liars++ {
		for _, now := range []int{-5, 0, 10, 21, 90, 10000, 20000, math.MinInt, math.MaxInt} {
			checkStrand(t, centuryFrame(now, liars), s, docsSlowly(s, threeParts()))
		}
	}
	if got := impl.BoundOf(centuryFrame(-5, 0), s, docsSlowly(s, threeParts()), 0); got != -5 {
		t.Errorf("BoundOf at the time -5 = %d", got)
	}
	for _, f := range []impl.Frame{{}, {Now: 90}, {Keys: centuryKeys, Now: 30}, {Keys: centuryKeys, Authorities: centuryAuthorities, Now: 30}, {Keys: oddKeys, Authorities: oddAuthorities, Methods: oddMethods, Now: 30}} {
		checkStrand(t, f, s, docsSlowly(s, threeParts()))
	}
	// A break later than all times, and more time than there is.
	never := centuryFrame(math.MaxInt-1, 0)
	never.Methods = []impl.Method{method(2, 0, 1, math.MaxInt)}
	checkKept(t, never, covering(renewAt(3, 2, 20, 3)), 0, 20)
	never.Now = math.MaxInt
	checkKept(t, never, covering(renewAt(3, 2, 20, 3)), 1, math.MaxInt)
}

// Bounds of existence are never later than now, for all chains of a few kinds of renewals.
func TestExistenceAsDefined(t *testing.T) {
	kinds := []renewed{renewAt(1, 2, 20, 1, 3), renewAt(2, 1, 30, 3), renewAt(2, 2, 49, 2, 3), renewAt(3, 2, 60, 2, 3), renewAt(3, 3, 100, 2, 4), renewAt(1, 4, 40, 3)}
	chains := [][]renewed{{}}
	for _, a := range kinds {
		chains = append(chains, []renewed{a})
		for _, b := range kinds {
			chains = append(chains, []renewed{a, b})
			for _, c := range kinds {
				chains = append(chains, []renewed{a, b, c})
			}
		}
	}
	for i, chain := range chains {
		s := covering(chain...)
		now := []int{49, 50, 119, 120}[i%4]
		checkStrand(t, centuryFrame(now, i%2), s, docsSlowly(s, threeParts()))
	}
}

func TestExistenceLeavesArgumentsAlone(t *testing.T) {
	f := impl.Frame{Keys: spareKeys(centuryKeys), Authorities: spareAuthorities(centuryAuthorities), Methods: spareMethods(centuryMethods), Now: 90}
	for _, x := range append(someStrands(), covering(renewAt(1, 2, 20, 3), renewAt(3, 2, 30, 3))) {
		s := spareStrand(x)
		before := wholeStrand(s)
		docs := spareInts(docsSlowly(s, threeParts()))
		p := sparePiece(piece(0, 5, 103, 0, 4))
		calls := []func(){
			func() { impl.IsFrame(f) }, func() { impl.LinkHolds(f, s, 0) }, func() { impl.BoundOf(f, s, docs, 0) }, func() { impl.PieceBound(f, s, docs, p) }, func() { impl.IsUnbroken(f, s, docs) }, func() { impl.FirstKept(f, s, docs) },
		}
		checkUnchanged(t, "existence", f.Keys, calls...)
		checkUnchanged(t, "existence", f.Authorities, calls...)
		checkUnchanged(t, "existence", f.Methods, calls...)
		checkUnchanged(t, "existence", docs, calls...)
		checkUnchanged(t, "existence", p.Ints, calls...)
		if !sameStrand(before, wholeStrand(s)) {
			t.Errorf("a function writes into the strand %v", x)
		}
	}
}
