package tests

import (
	"math"
	"slices"
	"testing"

	"loop.example/g00597/impl"
)

// certsInSlowly returns the certificates among pieces, by the definition alone.
func certsInSlowly(l []impl.Piece) []impl.Cert {
	found := []impl.Cert{}
	for _, p := range l {
		if n := p.Ints; len(n) == 7 && n[0] == 101 && n[6] == p.Key {
			found = append(found, impl.Cert{Serial: n[1], Key: n[2], Owner: n[3], From: n[4], To: n[5], Issuer: n[6], Mark: p.Mark})
		}
	}
	return found
}

func statusesInSlowly(l []impl.Piece) []impl.Status {
	found := []impl.Status{}
	for _, p := range l {
		if n := p.Ints; len(n) == 5 && n[0] == 102 && n[4] == p.Key {
			found = append(found, impl.Status{Serial: n[1], AsOf: n[2], Ended: n[3], Issuer: n[4], Mark: p.Mark})
		}
	}
	return found
}

func mandatesInSlowly(l []impl.Piece) []impl.Mandate {
	found := []impl.Mandate{}
	for _, p := range l {
		if n := p.Ints; len(n) == 6 && n[0] == 105 && n[5] == p.Key {
			found = append(found, impl.Mandate{Org: n[1], Person: n[2], From: n[3], To: n[4], Key: n[5], Mark: p.Mark})
		}
	}
	return found
}

// certForSlowly tells by the definition alone what CertFor returns.
func certForSlowly(f impl.Frame, usable []impl.Piece, x impl.Signature) (impl.Cert, bool) {
	found := []impl.Cert{}
	for _, c := range certsInSlowly(usable) {
		if c.Serial == x.Serial && c.Key == x.Key && impl.CheckCert(f.Keys, c) {
			found = append(found, c)
		}
	}
	if len(found) != 1 {
		return impl.Cert{}, false
	}
	return found[0], true
}

func statusesForSlowly(usable []impl.Piece, c impl.Cert) []impl.Status {
	return slices.DeleteFunc(statusesInSlowly(usable), func(s impl.Status) bool { return s.Serial != c.Serial || s.Issuer != c.Issuer })
}

func verdict(code int, reason int, s impl.Span) impl.Verdict {
	return impl.Verdict{Code: code, Reason: reason, Span: s}
}

// judgedSlowly tells by the definition alone what JudgeDigests returns.
func judgedSlowly(f impl.Frame, e impl.Evidence, docs [][]int, own int, x impl.Signature) impl.Verdict {
	var none impl.Span
	k, i := keySlowly(f.Keys, x.Key)
	switch {
	case !impl.IsFrame(f):
		return verdict(3, 1, none)
	case !impl.IsSignature(x):
		return verdict(2, 1, none)
	case own < 0:
		return verdict(3, 2, none)
	case own != x.Digest:
		return verdict(2, 2, none)
	case i < 0:
		return verdict(3, 3, none)
	case x != signatures.markedBy(k, x):
		return verdict(2, 4, none)
	}
	bound := evidenceBoundSlowly(f, e, docs, piece(x.Key, x.Mark, signatures.ints(x)...))
	if bound >= breakSlowly(f.Methods, k.Method) || bound >= breakSlowly(f.Methods, x.Method) {
		return verdict(3, 5, none)
	}
	usable := usableSlowly(f, e, docs)
	c, ok := certForSlowly(f, usable, x)
	if !ok {
		return verdict(3, 6, none)
	}
	from := freshSlowly(f, e, usable, x)
	if from > bound {
		return verdict(3, 7, none)
	}
	s, answers := span(from, bound), statusesForSlowly(usable, c)
	switch {
	case badTimesSlowly(c, answers).holds(s):
		return verdict(2, 8, s)
	case !goodTimesSlowly(c, answers).holds(s):
		return verdict(3, 7, s)
	case x.Org != 0 && !mandatedSlowly(f.Keys, mandatesInSlowly(usable), x.Org, c.Owner).holds(s):
		return verdict(3, 9, s)
	}
	return verdict(1, 0, s)
}

// checkVerdict checks what is judged of a signature of threeParts, also if parts of it are hidden.
func checkVerdict(t *testing.T, f impl.Frame, e impl.Evidence, x impl.Signature, want impl.Verdict) {
	t.Helper()
	d := threeParts()
	if got := impl.Judge(f, e, d, x); got != want {
		t.Errorf("Judge(%v, %v, %v) = %v, want %v", f, e, x, got, want)
	}
	docs, own := allDocsSlowly(e, d), docDigestSlowly(x.Method, d)
	if got := judgedSlowly(f, e, docs, own, x); got != want {
		t.Errorf("by its definition, the verdict on %v by %v is %v, not %v", x, e, got, want)
	}
	if got := impl.JudgeDigests(f, e, docs, own, x); got != want {
		t.Errorf("JudgeDigests(%v, %v, %v) = %v, want %v", f, e, x, got, want)
	}
	for _, hide := range [][]int{nil, {0}, {0, 1, 2}} {
		if got := impl.JudgeRedacted(f, e, redacted([]int{1, 2, 3, 4, x.Method}, d, hide...), x); got != want {
			t.Errorf("JudgeRedacted(%v, %v, %v) with %v hidden = %v, want %v", f, e, x, hide, got, want)
		}
	}
}

// withPieces returns evidence with these pieces, renewed at 28 and at 45.
func withPieces(l ...impl.Piece) impl.Evidence {
	return evidenceOf(strandWith(threeParts(), l, renewAt(len(l), 2, 28, 1, 2, 3), renewAt(len(l), 2, 45, 2, 3)))
}

// bareWith returns evidence with these pieces that was never renewed.
func bareWith(l ...impl.Piece) impl.Evidence {
	return evidenceOf(impl.Strand{Pieces: l})
}

func TestVerdictConstants(t *testing.T) {
	codes := []int{impl.VdValid, impl.VdInvalid, impl.VdOpen}
	reasons := []int{impl.RsNone, impl.RsForm, impl.RsDocument, impl.RsKey, impl.RsMark, impl.RsBroken, impl.RsCert, impl.RsTime, impl.RsEnded, impl.RsMandate}
	if !slices.Equal(codes, []int{1, 2, 3}) || !slices.Equal(reasons, []int{0, 1, 2, 3, 4, 5, 6, 7, 8, 9}) {
		t.Errorf("the codes are %v, and the reasons %v", codes, reasons)
	}
}

func TestJudge(t *testing.T) {
	x := signedOf(11, 2, 0, 0)
	checkVerdict(t, centuryFrame(90, 0), evidenceOf(keptStrand(0)), x, verdict(1, 0, span(5, 28)))
	checkVerdict(t, centuryFrame(119, 0), evidenceOf(keptStrand(0)), x, verdict(1, 0, span(5, 28)))
	// With a liar, it is not so sure how early the stamps were made.
	checkVerdict(t, centuryFrame(90, 1), evidenceOf(keptStrand(0)), x, verdict(1, 0, span(5, 29)))
	// By the first of all keys, and by another one.
	first, other := signedOf(1, 2, 0, 0), signedOf(33, 2, 0, 0)
	checkVerdict(t, centuryFrame(20, 0), bareWith(impl.SignPiece(first), impl.CertPiece(certOf(5, 1, 90, 0, 60, 2)), impl.StatusPiece(statusOf(5, 29, -1, 2))), first, verdict(1, 0, span(0, 20)))
	checkVerdict(t, centuryFrame(20, 0), bareWith(impl.SignPiece(other), impl.CertPiece(certOf(5, 33, 83, 0, 60, 2)), impl.StatusPiece(statusOf(5, 29, -1, 2))), other, verdict(1, 0, span(10, 20)))
	// At first nothing has to be renewed.
	checkVerdict(t, centuryFrame(29, 0), bareWith(keptPieces(0)...), x, verdict(1, 0, span(5, 29)))
	checkVerdict(t, centuryFrame(30, 0), bareWith(keptPieces(0)...), x, verdict(3, 7, span(5, 30)))
}

// The first step: form, document, key and mark.
func TestJudgeForm(t *testing.T) {
	f, e, x := centuryFrame(90, 0), evidenceOf(keptStrand(0)), signedOf(11, 2, 0, 0)
	docs, own := allDocsSlowly(e, threeParts()), docDigestSlowly(2, threeParts())
	var none impl.Span
	bad := f
	bad.Liars = 7
	invalid := x
	invalid.Commit = 4
	unknown := signedOf(14, 2, 0, 0)
	off, changed := x, x
	off.Mark++
	changed.Org = 50
	wrongKey := x
	wrongKey.Key = 12
	cases := []struct {
		f    impl.Frame
		own  int
		x    impl.Signature
		want impl.Verdict
	}{
		{f, own, x, verdict(1, 0, span(5, 28))},
		// Each case also has all that a later one has.
		{bad, own, x, verdict(3, 1, none)}, {bad, -1, invalid, verdict(3, 1, none)}, {bad, own, impl.Signature{}, verdict(3, 1, none)}, {bad, own + 1, off, verdict(3, 1, none)},
		{f, own, invalid, verdict(2, 1, none)}, {f, -1, impl.Signature{}, verdict(2, 1, none)}, {f, own + 1, invalid, verdict(2, 1, none)},
		{f, -1, x, verdict(3, 2, none)}, {f, -2, unknown, verdict(3, 2, none)}, {f, math.MinInt, off, verdict(3, 2, none)},
		{f, own + 1, x, verdict(2, 2, none)}, {f, own - 1, x, verdict(2, 2, none)}, {f, 0, x, verdict(2, 2, none)}, {f, own + 1, unknown, verdict(2, 2, none)}, {f, own + 1, off, verdict(2, 2, none)}, {f, math.MaxInt, x, verdict(2, 2, none)},
		{f, own, unknown, verdict(3, 3, none)},
		{f, own, off, verdict(2, 4, none)}, {f, own, changed, verdict(2, 4, none)}, {f, own, wrongKey, verdict(2, 4, none)},
	}
	for _, c := range cases {
		for i, e := range []impl.Evidence{e, {}} {
			if i == 1 && c.want.Code == 1 {
				continue
			}
			if got := impl.JudgeDigests(c.f, e, docs, c.own, c.x); got != c.want {
				t.Errorf("JudgeDigests(%v, %v, %d, %v) = %v, want %v", c.f, e, c.own, c.x, got, c.want)
			}
			if got := judgedSlowly(c.f, e, docs, c.own, c.x); got != c.want {
				t.Errorf("by its definition, the verdict on %v is %v, not %v", c.x, got, c.want)
			}
		}
	}
}

func TestJudgeOtherDocuments(t *testing.T) {
	f, e, x := centuryFrame(90, 0), evidenceOf(keptStrand(0)), signedOf(11, 2, 0, 0)
	var none impl.Span
	d := threeParts()
	other, _ := impl.ReplacePart(d, 1, "another part")
	if got := impl.Judge(f, e, other, x); got != verdict(2, 2, none) {
		t.Errorf("Judge of another document = %v", got)
	}
	if got := impl.Judge(f, e, impl.Document{}, x); got != verdict(3, 2, none) {
		t.Errorf("Judge of a document that is not valid = %v", got)
	}
	// A hidden part without a digest by the method of the signature.
	if got := impl.JudgeRedacted(f, e, redacted([]int{1, 3}, d, 0), x); got != verdict(3, 2, none) {
		t.Errorf("JudgeRedacted without the digest = %v", got)
	}
	if got := impl.JudgeRedacted(f, e, redacted([]int{2}, other, 0), x); got != verdict(2, 2, none) {
		t.Errorf("JudgeRedacted of another document = %v", got)
	}
	if got := impl.JudgeRedacted(f, e, redacted(nil, d), x); got != verdict(1, 0, span(5, 28)) {
		t.Errorf("JudgeRedacted with nothing hidden = %v", got)
	}
	if got := impl.JudgeRedacted(f, e, impl.Redacted{}, x); got != verdict(3, 2, none) {
		t.Errorf("JudgeRedacted of nothing = %v", got)
	}
	// The digest for the signature is right, but those for the renewals are not there, or of another document.
	for _, docs := range [][][]int{nil, {}, {nil}, {{1, 2}}, allDocsSlowly(e, other)} {
		if got := impl.JudgeDigests(f, e, docs, x.Digest, x); got != verdict(3, 5, none) {
			t.Errorf("JudgeDigests with the digests %v = %v", docs, got)
		}
	}
	// Without the digest for one renewal, only what is after it counts.
	twoMethods := evidenceOf(strandWith(d, keptPieces(0), renewAt(3, 2, 28, 2, 3), renewAt(3, 1, 45, 2, 3), renewAt(3, 2, 48, 2, 3)))
	checkVerdict(t, f, twoMethods, x, verdict(1, 0, span(5, 28)))
	if got := impl.JudgeRedacted(f, twoMethods, redacted([]int{2}, d, 0), x); got != verdict(3, 7, span(5, 48)) {
		t.Errorf("JudgeRedacted without the digest for a renewal = %v", got)
	}
}

// The second step: the signature was there before its key's method was broken, and before its own.
func TestJudgeBreak(t *testing.T) {
	var none impl.Span
	x := signedOf(11, 2, 0, 0)
	answer := impl.StatusPiece(statusOf(5, 100, -1, 1))
	l := []impl.Piece{impl.SignPiece(x), keptPieces(0)[1], answer}
	for now, want := range map[int]impl.Verdict{48: verdict(1, 0, span(5, 48)), 49: verdict(1, 0, span(5, 49)), 50: verdict(3, 5, none), 51: verdict(3, 5, none), 119: verdict(3, 5, none)} {
		checkVerdict(t, centuryFrame(now, 0), bareWith(l...), x, want)
	}
	// The method of the key lasts longer than that of the signature.
	own := signedOf(12, 1, 0, 0)
	m := []impl.Piece{impl.SignPiece(own), impl.CertPiece(certOf(5, 12, 1, 0, 90, 1)), answer}
	for now, want := range map[int]impl.Verdict{49: verdict(1, 0, span(20, 49)), 50: verdict(3, 5, none), 51: verdict(3, 5, none)} {
		checkVerdict(t, centuryFrame(now, 0), bareWith(m...), own, want)
	}
	both := signedOf(12, 2, 0, 0)
	m[0] = impl.SignPiece(both)
	for now, want := range map[int]impl.Verdict{50: verdict(1, 0, span(20, 50)), 119: verdict(3, 7, span(20, 119)), 120: verdict(3, 5, none)} {
		checkVerdict(t, centuryFrame(now, 0), bareWith(m...), both, want)
	}
	// It was renewed on the day of the break, and one before.
	for time, want := range map[int]impl.Verdict{49: verdict(1, 0, span(5, 49)), 50: verdict(3, 5, none)} {
		checkVerdict(t, centuryFrame(90, 0), evidenceOf(strandWith(threeParts(), l, renewAt(3, 2, time, 3))), x, want)
	}
	// Methods that nobody knows.
	strange := signedOf(13, 2, 0, 0)
	checkVerdict(t, centuryFrame(20, 0), bareWith(impl.SignPiece(strange), impl.CertPiece(certOf(5, 13, 2, 0, 90, 1)), answer), strange, verdict(3, 5, none))
	strange = signedOf(11, 4, 0, 0)
	checkVerdict(t, centuryFrame(20, 0), bareWith(impl.SignPiece(strange), keptPieces(0)[1], answer), strange, verdict(3, 5, none))
	// Nor is there a certificate.
	checkVerdict(t, centuryFrame(50, 0), impl.Evidence{}, x, verdict(3, 5, none))
	checkVerdict(t, centuryFrame(49, 0), impl.Evidence{}, x, verdict(3, 6, none))
	// Another strand proves it.
	checkVerdict(t, centuryFrame(90, 0), evidenceOf(impl.Strand{Pieces: l}, strandWith(threeParts(), l[:1], renewAt(1, 2, 30, 3))), x, verdict(1, 0, span(5, 30)))
}

// The third step: there is exactly one certificate.
func TestJudgeCert(t *testing.T) {
	var none impl.Span
	f, x := centuryFrame(90, 0), signedOf(11, 2, 0, 0)
	sign, own, answer := keptPieces(0)[0], keptPieces(0)[1], keptPieces(0)[2]
	open, valid := verdict(3, 6, none), verdict(1, 0, span(5, 28))
	checkVerdict(t, f, withPieces(sign), x, open)
	checkVerdict(t, f, withPieces(sign, answer), x, open)
	checkVerdict(t, f, withPieces(sign, own, answer), x, valid)
	// The same one in two strands, and two that differ.
	same := evidenceOf(withPieces(sign, own).Strands[0], withPieces(answer, own).Strands[0], withPieces(own, sign, answer).Strands[0])
	checkVerdict(t, f, same, x, valid)
	for _, other := range []impl.Cert{certOf(5, 11, 1, 0, 61, 1), certOf(5, 11, 1, 1, 60, 1), certOf(5, 11, 1, 0, 60, 2)} {
		checkVerdict(t, f, withPieces(sign, own, impl.CertPiece(other), answer), x, open)
		checkVerdict(t, f, evidenceOf(withPieces(sign, own, answer).Strands[0], withPieces(impl.CertPiece(other)).Strands[0]), x, open)
	}
	// Those that do not count: of another Serial or Key, of a wrong owner, with a wrong mark.
	off := certOf(5, 11, 1, 0, 60, 1)
	off.Mark++
	for _, other := range []impl.Cert{certOf(6, 11, 1, 0, 60, 1), certOf(5, 12, 1, 0, 60, 1), certOf(5, 11, 2, 0, 60, 1), off, certOf(5, 11, 1, 60, 0, 1), certOf(5, 11, 1, 0, 60, 99), certOf(5, 11, 1, 0, 60, 11)} {
		checkVerdict(t, f, withPieces(sign, impl.CertPiece(other), answer), x, open)
		checkVerdict(t, f, withPieces(sign, own, impl.CertPiece(other), answer), x, valid)
	}
	// One that could be forged does not count either: the method of the issuer 2 is broken at 50.
	late := impl.CertPiece(certOf(5, 11, 1, 0, 60, 2))
	checkVerdict(t, f, evidenceOf(withPieces(sign, answer).Strands[0], impl.Strand{Pieces: []impl.Piece{late}}), x, open)
	checkVerdict(t, f, evidenceOf(withPieces(sign, own, answer).Strands[0], impl.Strand{Pieces: []impl.Piece{late}}), x, valid)
	// Nor is the time right.
	checkVerdict(t, centuryFrame(4, 0), bareWith(sign), x, open)
}

// The fourth step: it was not made after it was there.
func TestJudgeTime(t *testing.T) {
	x := signedOf(11, 2, 0, 0)
	for now, want := range map[int]impl.Verdict{0: verdict(3, 7, span(0, 0)), 4: verdict(3, 7, span(0, 0)), 5: verdict(1, 0, span(5, 5)), 6: verdict(1, 0, span(5, 6))} {
		checkVerdict(t, centuryFrame(now, 0), bareWith(keptPieces(0)...), x, want)
	}
	// Stamps that it refers to, at 10.
	after := impl.StampsDigest(2, freshList)
	x = signedOf(11, 2, 0, after)
	stamped := append(keptPieces(after), freshPieces...)
	for now, want := range map[int]impl.Verdict{9: verdict(3, 7, span(0, 0)), 10: verdict(1, 0, span(10, 10)), 11: verdict(1, 0, span(10, 11))} {
		e := bareWith(stamped...)
		e.Fresh = [][]impl.Stamp{freshList}
		checkVerdict(t, centuryFrame(now, 0), e, x, want)
		// Without the list, or the pieces, it is known since the key was born only.
		checkVerdict(t, centuryFrame(now, 0), bareWith(stamped...), x, verdict(1, 0, span(5, now)))
		e.Strands = bareWith(keptPieces(after)...).Strands
		checkVerdict(t, centuryFrame(now, 0), e, x, verdict(1, 0, span(5, now)))
	}
	// The span would be barred as well.
	e := withPieces(impl.SignPiece(x), impl.CertPiece(certOf(5, 11, 1, 50, 60, 1)), freshPieces[0], freshPieces[1])
	e.Fresh = [][]impl.Stamp{freshList}
	e.Strands = append(e.Strands, strandWith(threeParts(), keptPieces(after)[:1], renewAt(1, 2, 9, 3)))
	checkVerdict(t, centuryFrame(90, 0), e, x, verdict(3, 7, span(0, 0)))
}

// The fifth step: the key was its owner's all the time.
func TestJudgeEntitlement(t *testing.T) {
	f, x := centuryFrame(90, 0), signedOf(11, 2, 0, 0)
	sign, own := keptPieces(0)[0], keptPieces(0)[1]
	by := func(l ...impl.Status) impl.Evidence {
		pieces := []impl.Piece{sign, own}
		for _, s := range l {
			pieces = append(pieces, impl.StatusPiece(s))
		}
		return withPieces(pieces...)
	}
	s := span(5, 28)
	checkVerdict(t, f, by(), x, verdict(3, 7, s))
	checkVerdict(t, f, by(statusOf(5, 27, -1, 1)), x, verdict(3, 7, s))
	checkVerdict(t, f, by(statusOf(5, 28, -1, 1)), x, verdict(1, 0, s))
	checkVerdict(t, f, by(statusOf(5, 60, 29, 1)), x, verdict(1, 0, s))
	checkVerdict(t, f, by(statusOf(5, 60, 28, 1)), x, verdict(3, 7, s))
	checkVerdict(t, f, by(statusOf(5, 60, 6, 1)), x, verdict(3, 7, s))
	checkVerdict(t, f, by(statusOf(5, 60, 5, 1)), x, verdict(2, 8, s))
	checkVerdict(t, f, by(statusOf(5, 60, 0, 1)), x, verdict(2, 8, s))
	// Answers that contradict one another leave it open.
	checkVerdict(t, f, by(statusOf(5, 60, 5, 1), statusOf(5, 30, -1, 1)), x, verdict(3, 7, s))
	checkVerdict(t, f, by(statusOf(5, 60, 5, 1), statusOf(5, 4, -1, 1)), x, verdict(2, 8, s))
	checkVerdict(t, f, by(statusOf(5, 60, 5, 1), statusOf(5, 60, 3, 1)), x, verdict(2, 8, s))
	// Answers of another issuer, about another certificate, and that do not check.
	off := statusOf(5, 60, 5, 1)
	off.Mark++
	for _, other := range []impl.Status{statusOf(5, 60, 5, 2), statusOf(6, 60, 5, 1), off, statusOf(5, 60, 5, 11)} {
		checkVerdict(t, f, by(other), x, verdict(3, 7, s))
		checkVerdict(t, f, by(other, statusOf(5, 29, -1, 1)), x, verdict(1, 0, s))
	}
	checkVerdict(t, f, by(statusOf(5, 29, -1, 2)), x, verdict(3, 7, s))
	// The span of the certificate.
	with := func(from int, to int) impl.Evidence {
		return withPieces(sign, impl.CertPiece(certOf(5, 11, 1, from, to, 1)), impl.StatusPiece(statusOf(5, 90, -1, 1)))
	}
	for _, c := range []struct {
		from, to int
		want     impl.Verdict
	}{
		{5, 28, verdict(1, 0, s)}, {6, 28, verdict(3, 7, s)}, {5, 27, verdict(3, 7, s)}, {0, 4, verdict(2, 8, s)}, {0, 5, verdict(3, 7, s)}, {29, 60, verdict(2, 8, s)}, {28, 60, verdict(3, 7, s)},
	} {
		checkVerdict(t, f, with(c.from, c.to), x, c.want)
	}
}

// The sixth step: who signs for an organization has its mandate.
func TestJudgeMandate(t *testing.T) {
	f, s := centuryFrame(90, 0), span(5, 28)
	sign := signedOf(11, 2, 50, 0)
	by := func(l ...impl.Mandate) impl.Evidence {
		pieces := append([]impl.Piece{impl.SignPiece(sign)}, keptPieces(0)[1:]...)
		for _, m := range l {
			pieces = append(pieces, impl.MandatePiece(m))
		}
		return withPieces(pieces...)
	}
	open, valid := verdict(3, 9, s), verdict(1, 0, s)
	checkVerdict(t, f, by(), sign, open)
	checkVerdict(t, f, by(mandateOf(50, 1, 5, 28, 21)), sign, valid)
	checkVerdict(t, f, by(mandateOf(50, 1, 0, 90, 21)), sign, valid)
	checkVerdict(t, f, by(mandateOf(50, 1, 6, 28, 21)), sign, open)
	checkVerdict(t, f, by(mandateOf(50, 1, 5, 27, 21)), sign, open)
	checkVerdict(t, f, by(mandateOf(50, 1, 5, 15, 21), mandateOf(50, 1, 16, 28, 21)), sign, valid)
	checkVerdict(t, f, by(mandateOf(50, 1, 5, 14, 21), mandateOf(50, 1, 16, 28, 21)), sign, open)
	// For another person or organization, by another's key, and with a wrong mark.
	off := mandateOf(50, 1, 0, 90, 21)
	off.Mark++
	checkVerdict(t, f, by(mandateOf(50, 2, 0, 90, 21), mandateOf(51, 1, 0, 90, 21), mandateOf(50, 1, 0, 90, 11), mandateOf(50, 1, 0, 90, 99), off), sign, open)
	// A mandate that could be forged is none.
	e := by()
	e.Strands = append(e.Strands, impl.Strand{Pieces: []impl.Piece{impl.MandatePiece(mandateOf(50, 1, 0, 90, 21))}})
	checkVerdict(t, f, e, sign, valid)
	f.Methods = []impl.Method{method(1, 0, 40, 50), method(2, 10, 85, 90), method(3, 80, impl.Never, impl.Never)}
	e.Strands[0] = strandWith(threeParts(), e.Strands[0].Pieces, renewAt(3, 2, 28, 1, 2, 3), renewAt(3, 2, 45, 2, 3), renewAt(3, 3, 80, 4))
	f.Now = 90
	checkVerdict(t, f, e, sign, open)
	// Mandates are not asked for if it has ended, or is for nobody else.
	ended := withPieces(impl.SignPiece(sign), keptPieces(0)[1], impl.StatusPiece(statusOf(5, 60, 5, 1)))
	checkVerdict(t, centuryFrame(90, 0), ended, sign, verdict(2, 8, s))
	checkVerdict(t, centuryFrame(90, 0), withPieces(impl.SignPiece(sign), keptPieces(0)[1]), sign, verdict(3, 7, s))
}

// A valid signature was made in time, by its key, for its document, for all evidence of a few kinds of pieces.
func TestJudgementAsDefined(t *testing.T) {
	org, after := signedOf(11, 2, 50, 0), signedOf(11, 2, 0, impl.StampsDigest(2, freshList))
	some := []impl.Piece{
		impl.CertPiece(certOf(5, 11, 1, 0, 60, 1)), impl.CertPiece(certOf(5, 11, 1, 3, 60, 1)), impl.StatusPiece(statusOf(5, 29, -1, 1)), impl.StatusPiece(statusOf(5, 40, 4, 1)), impl.StatusPiece(statusOf(5, 40, -1, 2)),
		impl.MandatePiece(mandateOf(50, 1, 4, 40, 21)), freshPieces[0], freshPieces[1],
	}
	for i, list := range subsets(len(some)) {
		for _, x := range []impl.Signature{org, after} {
			l := []impl.Piece{impl.SignPiece(x)}
			for _, j := range list {
				l = append(l, some[j])
			}
			half := strandWith(threeParts(), l[:1+len(l)/2], renewAt(1, 2, 20, 2, 3))
			e := impl.Evidence{Strands: []impl.Strand{half, withPieces(l...).Strands[0]}[i%2:], Fresh: [][]impl.Stamp{freshList}}
			f := centuryFrame([]int{9, 49, 90}[i%3], i%2)
			docs := allDocsSlowly(e, threeParts())
			if got, want := impl.Judge(f, e, threeParts(), x), judgedSlowly(f, e, docs, x.Digest, x); got != want {
				t.Errorf("Judge(%v, %v, %v) = %v, want %v", f, e, x, got, want)
			}
		}
	}
}

func TestCertFor(t *testing.T) {
	f, x := centuryFrame(90, 0), signedOf(11, 2, 0, 0)
	own, other := certOf(5, 11, 1, 0, 60, 1), certOf(5, 11, 1, 0, 61, 2)
	wrong := []impl.Piece{
		impl.CertPiece(certOf(6, 11, 1, 0, 60, 1)), impl.CertPiece(certOf(5, 12, 1, 0, 60, 1)), impl.CertPiece(certOf(5, 11, 2, 0, 60, 1)), impl.CertPiece(cert(5, 11, 1, 0, 60, 1)), keptPieces(0)[0], keptPieces(0)[2],
		{Key: 2, Ints: impl.CertInts(own), Mark: own.Mark}, {}, impl.StampPiece(1, freshList[0]),
	}
	cases := []struct {
		usable []impl.Piece
		want   impl.Cert
		ok     bool
	}{
		{nil, impl.Cert{}, false}, {[]impl.Piece{}, impl.Cert{}, false}, {wrong, impl.Cert{}, false}, {[]impl.Piece{impl.CertPiece(own)}, own, true}, {[]impl.Piece{impl.CertPiece(other)}, other, true},
		{append(slices.Clone(wrong), impl.CertPiece(own)), own, true}, {append([]impl.Piece{impl.CertPiece(own)}, wrong...), own, true},
		// Twice is more than once, also if it is the same one.
		{[]impl.Piece{impl.CertPiece(own), impl.CertPiece(own)}, impl.Cert{}, false}, {[]impl.Piece{impl.CertPiece(own), impl.CertPiece(other)}, impl.Cert{}, false}, {[]impl.Piece{impl.CertPiece(own), impl.CertPiece(other), impl.CertPiece(own)}, impl.Cert{}, false},
	}
	for _, c := range cases {
		if got, ok := impl.CertFor(f, c.usable, x); got != c.want || ok != c.ok {
			t.Errorf("CertFor(%v) = %v, %t, want %v, %t", c.usable, got, ok, c.want, c.ok)
		}
		if got, ok := impl.CertFor(impl.Frame{}, c.usable, x); ok || got != (impl.Cert{}) {
			t.Errorf("CertFor(%v) without keys = %v, %t", c.usable, got, ok)
		}
	}
}

func TestStatusesForAndMandatesIn(t *testing.T) {
	l := []impl.Piece{}
	for _, s := range []impl.Status{statusOf(5, 9, -1, 1), statusOf(5, 9, -1, 2), statusOf(6, 9, -1, 1), statusOf(5, 8, 3, 1), statusOf(5, 9, -1, 1), status(5, -4, 77, 1)} {
		l = append(l, impl.StatusPiece(s), impl.MandatePiece(mandateOf(50, s.AsOf, 3, s.Serial, 21)), impl.CertPiece(certOf(5, 11, 1, 0, 60, 1)))
	}
	l = append(l, piece(2, 3, 102, 5, 9, -1, 1), piece(22, 3, 105, 50, 1, 3, 4, 21), piece(1, 3, 102, 5, 9, -1), impl.StampPiece(1, freshList[0]), impl.Piece{}, impl.SignPiece(signedOf(11, 2, 0, 0)), impl.MandatePiece(mandate(-5, 0, 9, 3, 99)))
	x := cert(5, 11, 1, 0, 60, 1)
	want := []impl.Status{statusOf(5, 9, -1, 1), statusOf(5, 8, 3, 1), statusOf(5, 9, -1, 1), status(5, -4, 77, 1)}
	if got := impl.StatusesFor(l, x); !slices.Equal(got, want) {
		t.Errorf("StatusesFor = %v, want %v", got, want)
	}
	for serial := 4; serial <= 7; serial++ {
		for issuer := range 4 {
			c := impl.Cert{Serial: serial, Issuer: issuer}
			if got, want := impl.StatusesFor(l, c), statusesForSlowly(l, c); !slices.Equal(got, want) {
				t.Errorf("StatusesFor(%v) = %v, want %v", c, got, want)
			}
		}
	}
	if got, want := impl.MandatesIn(l), mandatesInSlowly(l); !slices.Equal(got, want) || len(got) != 7 {
		t.Errorf("MandatesIn = %v, want %v", got, want)
	}
	if len(impl.StatusesFor(nil, x)) != 0 || len(impl.MandatesIn(nil)) != 0 || len(impl.MandatesIn(keptPieces(0))) != 0 {
		t.Error("there is something in nothing")
	}
}

func TestJudgementLeavesArgumentsAlone(t *testing.T) {
	f := impl.Frame{Keys: spareKeys(centuryKeys), Authorities: spareAuthorities(centuryAuthorities), Methods: spareMethods(centuryMethods), Now: 90}
	d, x := spareDocument(threeParts()), signedOf(11, 2, 0, 0)
	for _, y := range append(someEvidence(), withPieces(keptPieces(0)...)) {
		e := spareEvidence(y)
		docs := spareOf(mapped(allDocsSlowly(y, d), spareInts), []int{-7})
		usable := spareOf(mapped(append(keptPieces(0), impl.MandatePiece(mandateOf(50, 1, 3, 4, 21))), sparePiece), piece(-7, -7))
		calls := []func(){
			func() { impl.JudgeDigests(f, e, docs, x.Digest, x) }, func() { impl.Judge(f, e, d, x) }, func() { impl.JudgeRedacted(f, e, redacted([]int{2}, d, 0), x) },
			func() { impl.CertFor(f, usable, x) }, func() { fill(impl.StatusesFor(usable, cert(5, 11, 1, 0, 60, 1)), good(-1)) }, func() { fill(impl.MandatesIn(usable), mandate(-1, -1, -1, -1, -1)) },
		}
		checkEvidenceUnchanged(t, "judgement", e, calls...)
		checkUnchanged(t, "judgement", f.Keys, calls...)
		checkUnchanged(t, "judgement", f.Authorities, calls...)
		checkUnchanged(t, "judgement", f.Methods, calls...)
		checkUnchanged(t, "judgement", d.Parts, calls...)
		checkPiecesUnchanged(t, "judgement", usable, calls...)
		for _, l := range docs {
			checkUnchanged(t, "judgement", l, calls...)
		}
		first, second := impl.StatusesFor(usable, cert(5, 11, 1, 0, 60, 1)), impl.MandatesIn(usable)
		fill(impl.StatusesFor(usable, cert(5, 11, 1, 0, 60, 1)), good(-1))
		fill(impl.MandatesIn(usable), mandate(-1, -1, -1, -1, -1))
		for _, p := range usable {
			fill(p.Ints, -1)
		}
		if !slices.Equal(first, []impl.Status{statusOf(5, 29, -1, 1)}) || !slices.Equal(second, []impl.Mandate{mandateOf(50, 1, 3, 4, 21)}) {
			t.Errorf("what was found changes with the pieces: %v, %v", first, second)
		}
	}
}
