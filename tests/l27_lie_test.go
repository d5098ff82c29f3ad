package tests

import (
	"math"
	"slices"
	"testing"

	"loop.example/g00597/impl"
)

// lyingAuthorities: -1 and 100 are not valid, the key of 7 is not there, and the second 2 counts for nothing.
var lyingAuthorities = []impl.Authority{
	authority(-1, 31, 0), authority(0, 31, 0), authority(1, 31, 1), authority(2, 32, 1), authority(3, 33, 0), authority(7, 97, 0), authority(99, 34, 0), authority(100, 34, 0), authority(2, 33, 1),
}

// saidBy returns a stamp of one of lyingAuthorities, marked with its key if there is one.
func saidBy(id int, seq int, time int, digest int) impl.Stamp {
	a, _ := authoritySlowly(lyingAuthorities, id)
	k, _ := keySlowly(centuryKeys, a.Key)
	s := stamp(id, seq, time, digest)
	s.Mark = markSlowly(k, stampIntsSlowly(s))
	return s
}

// areContrarySlowly tells by the definition alone what AreContrary returns.
func areContrarySlowly(a impl.Stamp, b impl.Stamp) bool {
	for _, s := range []impl.Stamp{a, b} {
		if made, ok := stampSlowly(centuryKeys, lyingAuthorities, s); !ok || made != s {
			return false
		}
	}
	if a.Seq > b.Seq {
		a, b = b, a
	}
	return a.Authority == b.Authority && (a.Seq == b.Seq && a != b || a.Seq < b.Seq && a.Time > b.Time)
}

func findSlowly(l []impl.Stamp) (impl.Contradiction, bool) {
	for i := range l {
		for j := i + 1; j < len(l); j++ {
			if areContrarySlowly(l[i], l[j]) {
				return impl.Contradiction{A: l[i], B: l[j]}, true
			}
		}
	}
	return impl.Contradiction{}, false
}

func liarsSlowly(l []impl.Stamp) []int {
	liars := []int{}
	for id := range 100 {
		for j := range l {
			for i := range j {
				if l[j].Authority == id && areContrarySlowly(l[j], l[i]) && !slices.Contains(liars, id) {
					liars = append(liars, id)
				}
			}
		}
	}
	return liars
}

// changedStamp returns a stamp that does not check.
func changedStamp(s impl.Stamp) impl.Stamp {
	s.Mark++
	return s
}

func checkContrary(t *testing.T, a impl.Stamp, b impl.Stamp, want bool) {
	t.Helper()
	if areContrarySlowly(a, b) != want {
		t.Errorf("by the definition, whether %v and %v are contrary: %t", a, b, !want)
	}
	for _, x := range []impl.Contradiction{{A: a, B: b}, {A: b, B: a}} {
		if got := impl.AreContrary(centuryKeys, lyingAuthorities, x.A, x.B); got != want {
			t.Errorf("AreContrary(%v, %v) = %t", x.A, x.B, got)
		}
		for _, id := range []int{-1, 0, 1, 2, 3, 7, 99, 100, a.Authority, b.Authority, a.Authority + 1, math.MinInt, math.MaxInt} {
			if got := impl.IsProof(centuryKeys, lyingAuthorities, x, id); got != (want && id == a.Authority) {
				t.Errorf("IsProof(%v, %d) = %t", x, id, got)
			}
		}
		if impl.AreContrary(nil, lyingAuthorities, x.A, x.B) || impl.AreContrary(centuryKeys, nil, x.A, x.B) || impl.IsProof(nil, lyingAuthorities, x, a.Authority) || impl.IsProof(centuryKeys, nil, x, a.Authority) {
			t.Errorf("%v is contrary without keys or authorities", x)
		}
	}
}

func TestAreContrary(t *testing.T) {
	a := saidBy(1, 3, 20, 7)
	checkContrary(t, a, a, false)
	// One number: only the same stamp is not contrary.
	checkContrary(t, a, saidBy(1, 3, 20, 8), true)
	checkContrary(t, a, saidBy(1, 3, 21, 7), true)
	checkContrary(t, a, saidBy(1, 3, 19, 7), true)
	checkContrary(t, a, saidBy(1, 3, 19, 9), true)
	// A lesser number with a lesser, an equal and a greater time.
	checkContrary(t, a, saidBy(1, 4, 21, 8), false)
	checkContrary(t, a, saidBy(1, 4, 20, 8), false)
	checkContrary(t, a, saidBy(1, 4, 20, 7), false)
	checkContrary(t, a, saidBy(1, 4, 19, 8), true)
	checkContrary(t, a, saidBy(1, 4, 19, 7), true)
	checkContrary(t, a, saidBy(1, 2, 19, 8), false)
	checkContrary(t, a, saidBy(1, 2, 20, 8), false)
	checkContrary(t, a, saidBy(1, 2, 21, 8), true)
	checkContrary(t, saidBy(1, 0, 10000, 0), saidBy(1, math.MaxInt, 0, 0), true)
	checkContrary(t, saidBy(1, 0, 0, 0), saidBy(1, math.MaxInt, 10000, 0), false)
	// Of two authorities, also if both have one key.
	checkContrary(t, a, saidBy(2, 3, 20, 8), false)
	checkContrary(t, a, saidBy(2, 4, 5, 8), false)
	checkContrary(t, a, saidBy(0, 3, 20, 8), false)
	checkContrary(t, a, saidBy(0, 4, 5, 8), false)
	// One of them does not check.
	checkContrary(t, a, changedStamp(saidBy(1, 3, 20, 8)), false)
	checkContrary(t, changedStamp(a), saidBy(1, 3, 20, 8), false)
	checkContrary(t, changedStamp(a), a, false)
	checkContrary(t, changedStamp(a), changedStamp(saidBy(1, 4, 5, 8)), false)
	checkContrary(t, a, stamp(1, 4, 5, 8), false)
	checkContrary(t, saidBy(1, 0, 10001, 7), saidBy(1, 1, 5, 7), false)
	checkContrary(t, saidBy(1, -1, 30, 7), saidBy(1, 1, 5, 7), false)
	checkContrary(t, saidBy(1, 2, -1, 7), saidBy(1, 1, 5, 7), false)
	checkContrary(t, saidBy(7, 3, 20, 7), saidBy(7, 3, 20, 8), false)
	checkContrary(t, saidBy(50, 3, 20, 7), saidBy(50, 3, 20, 8), false)
	checkContrary(t, impl.Stamp{}, impl.Stamp{}, false)
	checkContrary(t, impl.Stamp{}, stamp(0, 0, 0, 1), false)
	// Numbers of authorities need not be valid.
	for _, id := range []int{-1, 0, 99, 100} {
		checkContrary(t, saidBy(id, 3, 20, 7), saidBy(id, 4, 19, 7), true)
		checkContrary(t, saidBy(id, 3, 20, 7), saidBy(id, 4, 20, 7), false)
	}
}

func TestContraryStampsAsDefined(t *testing.T) {
	some := []impl.Stamp{}
	for _, id := range []int{1, 2, 7} {
		for _, seq := range []int{-1, 0, 4, 5} {
			for _, time := range []int{-1, 0, 8, 9} {
				some = append(some, saidBy(id, seq, time, 7), saidBy(id, seq, time, 8))
			}
		}
	}
	for i, a := range some {
		for _, b := range some[i%3:] {
			checkContrary(t, a, b, areContrarySlowly(a, b))
		}
	}
}

func checkStampsOf(t *testing.T, e impl.Evidence, want ...impl.Stamp) {
	t.Helper()
	if got := impl.StampsOf(e); !slices.Equal(got, want) {
		t.Errorf("StampsOf(%v) = %v, want %v", e, got, want)
	}
}

func TestStampsOf(t *testing.T) {
	s := []impl.Stamp{}
	for i := range 8 {
		s = append(s, stamp(9-i, i, 20-i, 7))
	}
	chain := func(lists ...[]impl.Stamp) impl.Strand {
		strand := impl.Strand{Pieces: []impl.Piece{impl.StampPiece(31, s[7])}}
		for _, l := range lists {
			strand.Chain = append(strand.Chain, impl.Renewal{Stamps: l})
		}
		return strand
	}
	checkStampsOf(t, impl.Evidence{})
	checkStampsOf(t, evidenceOf(impl.Strand{}, chain(), chain(nil)))
	checkStampsOf(t, impl.Evidence{Fresh: [][]impl.Stamp{nil, {}}})
	checkStampsOf(t, evidenceOf(chain(s[:1])), s[0])
	checkStampsOf(t, evidenceOf(chain(s[:2], s[2:3]), chain(s[3:5])), s[:5]...)
	checkStampsOf(t, impl.Evidence{Fresh: [][]impl.Stamp{s[3:5], s[:1]}}, s[3], s[4], s[0])
	checkStampsOf(t, impl.Evidence{Strands: []impl.Strand{chain(s[4:6]), chain(s[2:3])}, Fresh: [][]impl.Stamp{s[:2], s[6:]}}, s[4], s[5], s[2], s[0], s[1], s[6], s[7])
	// One stamp in several renewals, strands and lists, and twice in one.
	checkStampsOf(t, evidenceOf(chain(s[:2], s[1:3], s[:1]), chain(s[2:4])), s[:4]...)
	checkStampsOf(t, impl.Evidence{Strands: []impl.Strand{chain(s[2:4])}, Fresh: [][]impl.Stamp{s[:3], {s[0], s[0], s[5]}}}, s[2], s[3], s[0], s[1], s[5])
	checkStampsOf(t, evidenceOf(chain([]impl.Stamp{s[0], s[0]})), s[0])
	// Those that differ in one number only are others.
	similar := []impl.Stamp{stamp(1, 1, 1, 1), stamp(2, 1, 1, 1), stamp(1, 2, 1, 1), stamp(1, 1, 2, 1), stamp(1, 1, 1, 2), changedStamp(stamp(1, 1, 1, 1)), {}}
	checkStampsOf(t, impl.Evidence{Fresh: [][]impl.Stamp{similar, similar}}, similar...)
}

func checkFind(t *testing.T, l []impl.Stamp, want impl.Contradiction, wantOk bool, liars ...int) {
	t.Helper()
	if got, ok := impl.FindContradiction(centuryKeys, lyingAuthorities, l); got != want || ok != wantOk {
		t.Errorf("FindContradiction(%v) = %v, %t, want %v, %t", l, got, ok, want, wantOk)
	}
	if got := impl.LiarsIn(centuryKeys, lyingAuthorities, l); !slices.Equal(got, liars) {
		t.Errorf("LiarsIn(%v) = %v, want %v", l, got, liars)
	}
	if got, ok := findSlowly(l); got != want || ok != wantOk || !slices.Equal(liarsSlowly(l), liars) {
		t.Errorf("by the definition, the contradiction in %v is %v, %t, and the liars %v", l, got, ok, liarsSlowly(l))
	}
}

func TestFindContradictionAndLiarsIn(t *testing.T) {
	a, late, early := saidBy(1, 3, 20, 7), saidBy(1, 4, 19, 7), saidBy(1, 2, 25, 7)
	fine, two, other := saidBy(1, 5, 30, 7), saidBy(2, 1, 9, 9), saidBy(2, 1, 9, 8)
	pair := func(a impl.Stamp, b impl.Stamp) impl.Contradiction { return impl.Contradiction{A: a, B: b} }
	var none impl.Contradiction
	checkFind(t, nil, none, false)
	checkFind(t, []impl.Stamp{}, none, false)
	checkFind(t, []impl.Stamp{a}, none, false)
	checkFind(t, []impl.Stamp{a, a, fine, two}, none, false)
	checkFind(t, []impl.Stamp{a, late}, pair(a, late), true, 1)
	checkFind(t, []impl.Stamp{late, a}, pair(late, a), true, 1)
	// Two stamps with others before, between and behind.
	checkFind(t, []impl.Stamp{two, a, fine, late, two}, pair(a, late), true, 1)
	checkFind(t, []impl.Stamp{late, two, fine, a}, pair(late, a), true, 1)
	// Of several, the one with the first A, and of these the one with the first B.
	checkFind(t, []impl.Stamp{a, two, late, early, other}, pair(a, late), true, 1, 2)
	checkFind(t, []impl.Stamp{a, two, early, late, other}, pair(a, early), true, 1, 2)
	checkFind(t, []impl.Stamp{two, a, late, other}, pair(two, other), true, 1, 2)
	checkFind(t, []impl.Stamp{fine, two, a, late, other}, pair(two, other), true, 1, 2)
	checkFind(t, []impl.Stamp{early, a, late}, pair(early, a), true, 1)
	// Those that do not check are passed over.
	checkFind(t, []impl.Stamp{changedStamp(a), late, two, changedStamp(other)}, none, false)
	checkFind(t, []impl.Stamp{changedStamp(a), late, a, changedStamp(late)}, pair(late, a), true, 1)
	if _, ok := impl.FindContradiction(nil, lyingAuthorities, []impl.Stamp{a, late}); ok || len(impl.LiarsIn(nil, lyingAuthorities, []impl.Stamp{a, late})) != 0 {
		t.Error("there is a contradiction without keys")
	}
}

// Numbers that are not valid are found, but are not told as liars.
func TestLiarsOfAllNumbers(t *testing.T) {
	l := []impl.Stamp{}
	for _, id := range []int{100, 99, 7, 3, 2, 0, -1} {
		l = append(l, saidBy(id, 3, 20, 7), saidBy(id, 4, 19, 7))
	}
	checkFind(t, l, impl.Contradiction{A: l[0], B: l[1]}, true, 0, 2, 3, 99)
	checkFind(t, l[:2], impl.Contradiction{A: l[0], B: l[1]}, true)
	checkFind(t, l[12:], impl.Contradiction{A: l[12], B: l[13]}, true)
	slices.Reverse(l)
	checkFind(t, l, impl.Contradiction{A: l[0], B: l[1]}, true, 0, 2, 3, 99)
	// A liar several times over is told once.
	many := []impl.Stamp{}
	for i := range 6 {
		many = append(many, saidBy(3, i, 20-i, 7), saidBy(1, 7, 20, i))
	}
	checkFind(t, many, impl.Contradiction{A: many[0], B: many[2]}, true, 1, 3)
}

// Whoever contradicts itself can be proved to: each liar has a proof among the stamps, and nobody else has.
func TestLiarsAsDefined(t *testing.T) {
	some := []impl.Stamp{saidBy(1, 3, 20, 7), saidBy(2, 3, 20, 7), saidBy(1, 4, 19, 7), saidBy(2, 4, 20, 7), saidBy(2, 4, 20, 8), changedStamp(saidBy(1, 4, 18, 7)), saidBy(3, 1, 5, 5), saidBy(1, 5, 30, 7), saidBy(3, 1, 5, 5)}
	for _, list := range subsets(len(some)) {
		l := []impl.Stamp{}
		for _, i := range list {
			l = append(l, some[i])
		}
		for range 2 {
			want, ok := findSlowly(l)
			liars := liarsSlowly(l)
			checkFind(t, l, want, ok, liars...)
			for _, id := range []int{1, 2, 3} {
				of := slices.DeleteFunc(slices.Clone(l), func(s impl.Stamp) bool { return s.Authority != id })
				x, found := impl.FindContradiction(centuryKeys, lyingAuthorities, of)
				if found != slices.Contains(liars, id) || impl.IsProof(centuryKeys, lyingAuthorities, x, id) != found {
					t.Errorf("the proof against %d from %v is %v, %t", id, l, x, found)
				}
			}
			slices.Reverse(l)
		}
	}
}

func TestIsProof(t *testing.T) {
	a, b := saidBy(1, 3, 20, 7), saidBy(1, 4, 19, 7)
	for _, x := range []impl.Contradiction{{}, {A: a}, {B: a}, {A: a, B: a}, {A: a, B: saidBy(1, 4, 20, 7)}, {A: a, B: saidBy(2, 4, 19, 7)}, {A: a, B: changedStamp(b)}, {A: changedStamp(a), B: b}} {
		for _, id := range []int{0, 1, 2, -1} {
			if impl.IsProof(centuryKeys, lyingAuthorities, x, id) {
				t.Errorf("IsProof(%v, %d) = true", x, id)
			}
		}
	}
	for id := -3; id < 103; id++ {
		if got := impl.IsProof(centuryKeys, lyingAuthorities, impl.Contradiction{A: a, B: b}, id); got != (id == 1) {
			t.Errorf("IsProof against %d = %t", id, got)
		}
	}
}

func TestManyStampsInOrder(t *testing.T) {
	l := []impl.Stamp{}
	for i := range 500 {
		l = append(l, saidBy(i%3+1, i, i, i))
	}
	checkFind(t, l, impl.Contradiction{}, false)
	l = append(l, saidBy(2, 250, 0, 0))
	want, ok := findSlowly(l)
	checkFind(t, l, want, ok, 2)
}

func TestLiesLeaveArgumentsAlone(t *testing.T) {
	keys, authorities := spareKeys(centuryKeys), spareAuthorities(lyingAuthorities)
	for _, list := range [][]impl.Stamp{{}, freshList, {saidBy(2, 1, 9, 9), saidBy(1, 3, 20, 7), saidBy(1, 4, 19, 7), saidBy(0, 3, 3, 3)}} {
		l := spareOf(list, saidBy(1, 9, 0, 0))
		checkApart(t, "LiarsIn", l, stamp(-1, -1, -1, -1), -9, func() []int { return impl.LiarsIn(keys, authorities, l) })
		calls := []func(){func() { impl.FindContradiction(keys, authorities, l) }, func() { impl.LiarsIn(keys, authorities, l) }, func() { impl.AreContrary(keys, authorities, freshList[0], saidBy(2, 1, 8, 8)) }, func() { impl.IsProof(keys, authorities, impl.Contradiction{}, 0) }}
		checkUnchanged(t, "lies", l, calls...)
		checkUnchanged(t, "lies", keys, calls...)
		checkUnchanged(t, "lies", authorities, calls...)
		e := impl.Evidence{Strands: []impl.Strand{{Chain: []impl.Renewal{{Stamps: l}}}}, Fresh: [][]impl.Stamp{l}}
		checkApart(t, "StampsOf", l, stamp(-1, -1, -1, -1), stamp(-2, -2, -2, -2), func() []impl.Stamp { return impl.StampsOf(e) })
	}
	for _, x := range someEvidence() {
		e := spareEvidence(x)
		checkEvidenceUnchanged(t, "StampsOf", e, func() { fill(impl.StampsOf(e), stamp(-2, -2, -2, -2)) })
	}
}
