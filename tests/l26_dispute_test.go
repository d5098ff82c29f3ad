package tests

import (
	"slices"
	"testing"

	"loop.example/g00597/impl"
)

// judgeSlowly tells by the definition alone what Judge returns for threeParts.
func judgeSlowly(f impl.Frame, e impl.Evidence, x impl.Signature) impl.Verdict {
	return judgedSlowly(f, e, allDocsSlowly(e, threeParts()), docDigestSlowly(x.Method, threeParts()), x)
}

func enoughSlowly(f impl.Frame, a impl.Evidence, b impl.Evidence, x impl.Signature) int {
	both, enough := judgeSlowly(f, joinedSlowly(a, b), x).Code, 0
	if both == 3 {
		return 0
	}
	if judgeSlowly(f, a, x).Code == both {
		enough++
	}
	if judgeSlowly(f, b, x).Code == both {
		enough += 2
	}
	return enough
}

// isConsistentSlowly tells by the definition alone what IsConsistent returns.
func isConsistentSlowly(f impl.Frame, e impl.Evidence, x impl.Signature) bool {
	docs := allDocsSlowly(e, threeParts())
	usable := usableSlowly(f, e, docs)
	c, ok := certForSlowly(f, usable, x)
	if !ok {
		return false
	}
	answers := statusesForSlowly(usable, c)
	good, bad := goodSlowly(answers, c.Serial), badSlowly(answers, c.Serial)
	return (bad == 10001 || bad == good+1) && freshSlowly(f, e, usable, x) <= evidenceBoundSlowly(f, e, docs, impl.SignPiece(x))
}

// smallestSlowly tells by the definition alone what SmallestEvidence returns.
func smallestSlowly(f impl.Frame, e impl.Evidence, x impl.Signature) impl.Evidence {
	code := judgeSlowly(f, e, x).Code
	smallest := copyEvidence(e)
	for i := len(e.Strands) - 1; i >= 0; i-- {
		less := copyEvidence(smallest)
		less.Strands = slices.Delete(less.Strands, i, i+1)
		if judgeSlowly(f, less, x).Code == code {
			smallest = less
		}
	}
	return smallest
}

// someSides are evidence about one signature: nothing, its piece alone, what is missing there, all of it, and what contradicts it.
func someSides() []impl.Evidence {
	sign, own, answer := keptPieces(0)[0], keptPieces(0)[1], keptPieces(0)[2]
	strand := func(l ...impl.Piece) impl.Strand { return withPieces(l...).Strands[0] }
	ended := impl.StatusPiece(statusOf(5, 60, 4, 1))
	return []impl.Evidence{
		{}, evidenceOf(strand(sign)), evidenceOf(strand(own, answer)), evidenceOf(strand(own), strand(answer)), evidenceOf(strand(sign, own, answer)), evidenceOf(impl.Strand{Pieces: keptPieces(0)}),
		evidenceOf(strand(answer), strand(sign), strand(own)), evidenceOf(strand(ended, own)), evidenceOf(strand(sign, own, ended)), evidenceOf(strand(impl.CertPiece(certOf(5, 11, 1, 1, 60, 1)))), evidenceOf(impl.Strand{}, strand(sign), strand(sign, own, answer), strand(sign)),
		{Strands: []impl.Strand{strand(sign, own, answer)}, Fresh: [][]impl.Stamp{freshList, freshList}}, {Fresh: [][]impl.Stamp{freshList, {}}},
	}
}

// checkDispute checks all that is told of a dispute.
func checkDispute(t *testing.T, f impl.Frame, a impl.Evidence, b impl.Evidence, x impl.Signature) {
	t.Helper()
	d := threeParts()
	want := judgeSlowly(f, joinedSlowly(a, b), x)
	both, other := impl.JudgeBoth(f, a, b, d, x), impl.JudgeBoth(f, b, a, d, x)
	if both != want || other != want {
		t.Errorf("JudgeBoth(%v, %v) = %v, and the other way round %v, want %v", a, b, both, other, want)
	}
	if got, want := impl.EnoughOf(f, a, b, d, x), enoughSlowly(f, a, b, x); got != want {
		t.Errorf("EnoughOf(%v, %v) = %d, want %d", a, b, got, want)
	}
	// Evidence that contradicts nothing never makes it worse.
	if alone := impl.Judge(f, a, d, x); impl.IsConsistent(f, impl.JoinEvidence(a, b), d, x) && !impl.IsKept(alone, both) {
		t.Errorf("with %v beside %v, the verdict %v became %v", b, a, alone, both)
	}
}

// checkSide checks all that is told of evidence alone.
func checkSide(t *testing.T, f impl.Frame, e impl.Evidence, x impl.Signature) {
	t.Helper()
	if got, want := impl.IsConsistent(f, e, threeParts(), x), isConsistentSlowly(f, e, x); got != want {
		t.Errorf("IsConsistent(%v) = %t", e, got)
	}
	got, want := impl.SmallestEvidence(f, e, threeParts(), x), smallestSlowly(f, e, x)
	if !sameEvidence(got, want) {
		t.Errorf("SmallestEvidence(%v) = %v, want %v", e, got, want)
	}
	if impl.Judge(f, got, threeParts(), x).Code != impl.Judge(f, e, threeParts(), x).Code {
		t.Errorf("by SmallestEvidence(%v), the verdict is another", e)
	}
}

func TestDisputesAsDefined(t *testing.T) {
	after := signedOf(11, 2, 0, impl.StampsDigest(2, freshList))
	for _, f := range []impl.Frame{centuryFrame(90, 0), centuryFrame(20, 0)} {
		for _, a := range someSides() {
			for _, x := range []impl.Signature{signedOf(11, 2, 0, 0), after, {}} {
				checkSide(t, f, a, x)
			}
			for _, b := range someSides() {
				checkDispute(t, f, a, b, signedOf(11, 2, 0, 0))
			}
		}
	}
}

func TestJudgeBothAndEnoughOf(t *testing.T) {
	f, d, x := centuryFrame(90, 0), threeParts(), signedOf(11, 2, 0, 0)
	sign, own, answer := keptPieces(0)[0], keptPieces(0)[1], keptPieces(0)[2]
	whole, poor, rest := withPieces(sign, own, answer), withPieces(sign), withPieces(own, answer)
	bare := bareWith(sign, own, answer)
	ended := withPieces(sign, own, impl.StatusPiece(statusOf(5, 60, 4, 1)))
	valid, s := verdict(1, 0, span(5, 28)), span(5, 28)
	var none impl.Span
	cases := []struct {
		a, b   impl.Evidence
		want   impl.Verdict
		enough int
	}{
		{whole, whole, valid, 3}, {whole, poor, valid, 1}, {poor, whole, valid, 2}, {whole, impl.Evidence{}, valid, 1}, {impl.Evidence{}, whole, valid, 2},
		// Neither is enough, but both together are.
		{poor, rest, valid, 0}, {rest, poor, valid, 0}, {bare, poor, verdict(1, 0, s), 0},
		// It stays open.
		{poor, poor, verdict(3, 6, none), 0}, {impl.Evidence{}, impl.Evidence{}, verdict(3, 5, none), 0}, {bare, bare, verdict(3, 5, none), 0}, {rest, bare, verdict(3, 5, none), 0},
		// One says that it is valid, and the other one that it is not.
		{whole, ended, verdict(3, 7, s), 0}, {ended, whole, verdict(3, 7, s), 0}, {ended, ended, verdict(2, 8, s), 3}, {ended, poor, verdict(2, 8, s), 1}, {rest, ended, verdict(3, 7, s), 0},
	}
	for _, c := range cases {
		if got := impl.JudgeBoth(f, c.a, c.b, d, x); got != c.want {
			t.Errorf("JudgeBoth(%v, %v) = %v, want %v", c.a, c.b, got, c.want)
		}
		if got := impl.EnoughOf(f, c.a, c.b, d, x); got != c.enough {
			t.Errorf("EnoughOf(%v, %v) = %d, want %d", c.a, c.b, got, c.enough)
		}
		checkDispute(t, f, c.a, c.b, x)
	}
	// A verdict that needs no evidence: both sides are enough.
	bad := x
	bad.Mark++
	if got := impl.EnoughOf(f, impl.Evidence{}, whole, d, bad); got != 3 {
		t.Errorf("EnoughOf for a wrong mark = %d", got)
	}
	f.Liars = 9
	if got := impl.EnoughOf(f, whole, whole, d, x); got != 0 || impl.JudgeBoth(f, whole, whole, d, x) != verdict(3, 1, none) {
		t.Errorf("EnoughOf in a frame that is not valid = %d", got)
	}
}

// Verdicts do not depend on the order of the strands.
func TestVerdictsDoNotDependOnOrder(t *testing.T) {
	f, x := centuryFrame(90, 0), signedOf(11, 2, 0, 0)
	for _, e := range someSides() {
		want := impl.Judge(f, e, threeParts(), x)
		for turn := range len(e.Strands) {
			turned := copyEvidence(e)
			turned.Strands = slices.Concat(turned.Strands[turn:], turned.Strands[:turn])
			slices.Reverse(turned.Fresh)
			if got := impl.Judge(f, turned, threeParts(), x); got != want {
				t.Errorf("Judge(%v) = %v, and in another order %v", e, want, got)
			}
			slices.Reverse(turned.Strands)
			if got := impl.Judge(f, turned, threeParts(), x); got != want {
				t.Errorf("Judge(%v) = %v, and in another order %v", e, want, got)
			}
		}
	}
}

func TestIsConsistent(t *testing.T) {
	f, d, x := centuryFrame(90, 0), threeParts(), signedOf(11, 2, 0, 0)
	sign, own, answer := keptPieces(0)[0], keptPieces(0)[1], keptPieces(0)[2]
	with := func(l ...impl.Piece) impl.Evidence { return withPieces(append([]impl.Piece{sign, own}, l...)...) }
	cases := []struct {
		e    impl.Evidence
		want bool
	}{
		{impl.Evidence{}, false}, {withPieces(sign), false}, {withPieces(own), true}, {with(), true}, {with(answer), true}, {withPieces(sign, answer), false},
		// Two certificates.
		{with(answer, impl.CertPiece(certOf(5, 11, 1, 0, 61, 1))), false}, {with(answer, impl.CertPiece(certOf(6, 11, 1, 0, 61, 1))), true},
		// Answers that agree, and that contradict one another.
		{with(answer, impl.StatusPiece(statusOf(5, 60, 30, 1))), true}, {with(answer, impl.StatusPiece(statusOf(5, 60, 29, 1))), false}, {with(impl.StatusPiece(statusOf(5, 60, 29, 1)), impl.StatusPiece(statusOf(5, 60, 30, 1))), false},
		{with(answer, impl.StatusPiece(statusOf(5, 60, 20, 2))), true}, {with(answer, impl.StatusPiece(statusOf(6, 60, 20, 1))), true}, {with(impl.StatusPiece(statusOf(5, 60, 3, 1))), true},
	}
	for _, c := range cases {
		if got := impl.IsConsistent(f, c.e, d, x); got != c.want {
			t.Errorf("IsConsistent(%v) = %t", c.e, got)
		}
		checkSide(t, f, c.e, x)
	}
	// It was made after it was there.
	for now, want := range map[int]bool{4: false, 5: true, 6: true} {
		if got := impl.IsConsistent(centuryFrame(now, 0), bareWith(keptPieces(0)...), d, x); got != want {
			t.Errorf("now %d: IsConsistent = %t", now, got)
		}
	}
	// Neither the form nor the mark is asked for.
	bad := x
	bad.Mark++
	if !impl.IsConsistent(f, with(answer), d, bad) || impl.IsConsistent(f, with(answer), d, signedOf(12, 2, 0, 0)) || impl.IsConsistent(impl.Frame{Now: 90}, with(answer), d, x) {
		t.Error("IsConsistent of another signature")
	}
	other, _ := impl.ReplacePart(d, 0, "another part")
	if impl.IsConsistent(centuryFrame(130, 0), with(answer), other, x) {
		t.Error("IsConsistent for another document")
	}
}

func TestSmallestEvidence(t *testing.T) {
	f, d, x := centuryFrame(90, 0), threeParts(), signedOf(11, 2, 0, 0)
	sign, own, answer := keptPieces(0)[0], keptPieces(0)[1], keptPieces(0)[2]
	strand := func(l ...impl.Piece) impl.Strand { return withPieces(l...).Strands[0] }
	a, b, c, all, empty := strand(sign), strand(own), strand(answer), strand(sign, own, answer), impl.Strand{}
	cases := []struct {
		strands []impl.Strand
		want    []impl.Strand
	}{
		{nil, nil}, {[]impl.Strand{all}, []impl.Strand{all}}, {[]impl.Strand{a, b, c}, []impl.Strand{a, b, c}}, {[]impl.Strand{c, a, b}, []impl.Strand{c, a, b}},
		// The last ones are left out first.
		{[]impl.Strand{a, b, c, all}, []impl.Strand{a, b, c}}, {[]impl.Strand{all, a, b, c}, []impl.Strand{all}}, {[]impl.Strand{a, all, c}, []impl.Strand{all}}, {[]impl.Strand{all, all}, []impl.Strand{all}}, {[]impl.Strand{a, b, all, c}, []impl.Strand{all}}, {[]impl.Strand{a, b, c, a}, []impl.Strand{a, b, c}},
		{[]impl.Strand{empty, all, empty}, []impl.Strand{all}}, {[]impl.Strand{{Pieces: keptPieces(0)}, all}, []impl.Strand{all}},
		// If it is open, nothing is needed.
		{[]impl.Strand{a}, nil}, {[]impl.Strand{a, b}, nil}, {[]impl.Strand{b, c, empty}, nil},
	}
	for _, c := range cases {
		for _, fresh := range [][][]impl.Stamp{nil, {freshList, {}, freshList}} {
			e := impl.Evidence{Strands: c.strands, Fresh: fresh}
			if got := impl.SmallestEvidence(f, e, d, x); !sameEvidence(got, impl.Evidence{Strands: c.want, Fresh: fresh}) {
				t.Errorf("SmallestEvidence(%v) = %v, want %v", e, got, c.want)
			}
			checkSide(t, f, e, x)
		}
	}
	// What contradicts the rest cannot be left out if the verdict is open because of it; then the last of what makes it so is left out.
	ended := strand(sign, own, impl.StatusPiece(statusOf(5, 60, 4, 1)))
	for _, strands := range [][]impl.Strand{{all, ended}, {ended, all}, {ended, all, a}} {
		checkSide(t, f, evidenceOf(strands...), x)
	}
}

func TestCountPieces(t *testing.T) {
	cases := map[int]impl.Evidence{
		0: {}, 1: evidenceOf(counting(1)), 3: evidenceOf(counting(1), counting(2)), 5: evidenceOf(impl.Strand{}, counting(5, 1, 2)), 4: evidenceOf(counting(2), counting(2)), 26: {Strands: []impl.Strand{counting(13), counting(13)}, Fresh: [][]impl.Stamp{freshList}},
	}
	for want, e := range cases {
		if got := impl.CountPieces(e); got != want {
			t.Errorf("CountPieces(%v) = %d, want %d", e, got, want)
		}
	}
	if impl.CountPieces(evidenceOf(impl.Strand{}, impl.Strand{})) != 0 || impl.CountPieces(impl.Evidence{Fresh: [][]impl.Stamp{freshList}}) != 0 {
		t.Error("there are pieces in nothing")
	}
}

func TestDisputesLeaveArgumentsAlone(t *testing.T) {
	f := impl.Frame{Keys: spareKeys(centuryKeys), Authorities: spareAuthorities(centuryAuthorities), Methods: spareMethods(centuryMethods), Now: 90}
	d, x := spareDocument(threeParts()), signedOf(11, 2, 0, 0)
	sides := someSides()
	for i, y := range sides {
		a, b := spareEvidence(y), spareEvidence(sides[(i+3)%len(sides)])
		calls := []func(){
			func() { impl.JudgeBoth(f, a, b, d, x) }, func() { impl.EnoughOf(f, a, b, d, x) }, func() { impl.IsConsistent(f, a, d, x) }, func() { impl.CountPieces(a) },
			func() { wipeEvidence(impl.SmallestEvidence(f, a, d, x)) },
		}
		checkEvidenceUnchanged(t, "disputes", a, calls...)
		checkEvidenceUnchanged(t, "disputes", b, calls...)
		checkUnchanged(t, "disputes", f.Keys, calls...)
		checkUnchanged(t, "disputes", d.Parts, calls...)
		first, want := impl.SmallestEvidence(f, a, d, x), smallestSlowly(f, y, x)
		wipeEvidence(impl.SmallestEvidence(f, a, d, x))
		wipeEvidence(a)
		if !sameEvidence(first, want) {
			t.Errorf("what SmallestEvidence returns changes with its argument: %v, want %v", first, want)
		}
	}
}
