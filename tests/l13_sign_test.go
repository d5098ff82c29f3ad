package tests

import (
	"math"
	"slices"
	"testing"

	"loop.example/g00597/impl"
)

func signature(key int, serial int, method int, digest int, commit int, org int, before int, after int) impl.Signature {
	return impl.Signature{Key: key, Serial: serial, Method: method, Digest: digest, Commit: commit, Org: org, Before: before, After: after}
}

// someSignatures are valid, their keys are some of fewKeys, and some of them refer to nothing.
var someSignatures = []impl.Signature{
	signature(11, 5, 2, 77, impl.CoApprove, 0, 0, 0), signature(12, 1, 0, 0, impl.CoAuthor, 99, 0, 5), signature(13, 999, 99, impl.MaxValue, impl.CoWitness, 50, impl.MaxValue, impl.MaxValue),
	signature(14, 7, 1, impl.Modulus, impl.CoAuthor, 1, 9, 0), signature(1, 500, 3, 1, impl.CoWitness, 0, 1, 1),
}

var signatureFields = []field[impl.Signature]{
	{"Key", func(x *impl.Signature) *int { return &x.Key }, 1, 99},
	{"Serial", func(x *impl.Signature) *int { return &x.Serial }, 1, 999},
	{"Method", func(x *impl.Signature) *int { return &x.Method }, 0, 99},
	{"Digest", func(x *impl.Signature) *int { return &x.Digest }, 0, impl.MaxValue},
	{"Commit", func(x *impl.Signature) *int { return &x.Commit }, 1, 3},
	{"Org", func(x *impl.Signature) *int { return &x.Org }, 0, 99},
	{"Before", func(x *impl.Signature) *int { return &x.Before }, 0, impl.MaxValue},
	{"After", func(x *impl.Signature) *int { return &x.After }, 0, impl.MaxValue},
	{"Mark", func(x *impl.Signature) *int { return &x.Mark }, 0, impl.Modulus - 1},
}

var signatures = statement[impl.Signature]{
	name:  "signature",
	make:  impl.SignDigest,
	check: impl.CheckSignature,
	ints: func(x impl.Signature) []int {
		return []int{104, x.Key, x.Serial, x.Method, x.Digest, x.Commit, x.Org, x.Before, x.After}
	},
	fields: signatureFields,
	key:    func(x *impl.Signature) *int { return &x.Key },
	mark:   func(x *impl.Signature) *int { return &x.Mark },
}

func signatureDigestSlowly(method int, x impl.Signature) int {
	return hashSlowly(slices.Concat([]int{7, method}, signatures.ints(x), []int{x.Mark}))
}

func spareSignatures(l []impl.Signature) []impl.Signature {
	return spareOf(l, signature(11, 5, 2, 77, 1, 0, 0, 0))
}

func TestCommitConstants(t *testing.T) {
	if impl.CoAuthor != 1 || impl.CoApprove != 2 || impl.CoWitness != 3 {
		t.Errorf("CoAuthor = %d, CoApprove = %d, CoWitness = %d", impl.CoAuthor, impl.CoApprove, impl.CoWitness)
	}
}

func TestIsSignature(t *testing.T) {
	for _, x := range someSignatures {
		checkFields(t, x, impl.IsSignature, signatureFields[:8])
		// The mark does not matter.
		for _, mark := range []int{0, -1, math.MaxInt, math.MinInt} {
			x.Mark = mark
			if !impl.IsSignature(x) {
				t.Errorf("IsSignature(%v) = false", x)
			}
		}
	}
	for commit := -1; commit <= 5; commit++ {
		if x := signature(11, 5, 2, 77, commit, 0, 0, 0); impl.IsSignature(x) != (commit >= 1 && commit <= 3) {
			t.Errorf("IsSignature(%v) = %t", x, impl.IsSignature(x))
		}
	}
	if impl.IsSignature(impl.Signature{}) {
		t.Error("the zero Signature is valid")
	}
}

func TestSignatureInts(t *testing.T) {
	x := impl.Signature{Key: 2, Serial: 3, Method: 4, Digest: 5, Commit: 6, Org: 7, Before: 8, After: 9, Mark: 10}
	if got := impl.SignatureInts(x); !slices.Equal(got, []int{104, 2, 3, 4, 5, 6, 7, 8, 9}) {
		t.Errorf("SignatureInts = %v", got)
	}
	signatures.checkInts(t, impl.SignatureInts, append(slices.Clone(someSignatures), impl.Signature{}, signature(-1, math.MinInt, math.MaxInt, -9, -8, -7, -6, -5)))
}

func TestSignDigest(t *testing.T) {
	marks := map[impl.Signature]int{
		someSignatures[0]: 565701929,
		signature(13, 999, 99, impl.MaxValue, 3, 99, impl.MaxValue, impl.MaxValue): 1806490513,
	}
	for x, mark := range marks {
		if got := signatures.made(t, fewKeys, x); got.Mark != mark {
			t.Errorf("SignDigest(%v) = %v, want the mark %d", x, got, mark)
		}
	}
	signatures.checkAnyOldMark(t, someSignatures)
}

func TestSignDigestThatIsNotValid(t *testing.T) {
	signatures.checkRanges(t, someSignatures)
}

func TestSignaturesAreCheckedAsTheyWereMade(t *testing.T) {
	signatures.checkMarks(t, someSignatures)
	// The first key with the Number counts.
	keys := []impl.Key{key(11, 1, 1, 0, 5), key(11, 1, 1, 0, 6)}
	signatures.checkHolds(t, keys, signatures.made(t, keys, someSignatures[0]), true)
	signatures.checkHolds(t, keys, signatures.made(t, keys[1:], someSignatures[0]), false)
}

func TestSignatureDigest(t *testing.T) {
	x := someSignatures[0]
	x.Mark = 565701929
	if got := impl.SignatureDigest(3, x); got != 1271781164 {
		t.Errorf("SignatureDigest(3, %v) = %d", x, got)
	}
	for _, like := range append(slices.Clone(someSignatures), impl.Signature{}, signature(-1, -2, -3, -4, -5, -6, -7, math.MinInt)) {
		for _, mark := range []int{0, 5, -1, impl.Modulus + 7, math.MinInt} {
			like.Mark = mark
			for _, method := range someMethodIds {
				want := signatureDigestSlowly(method, like)
				if got := impl.SignatureDigest(method, like); got != want {
					t.Errorf("SignatureDigest(%d, %v) = %d, want %d", method, like, got, want)
				}
			}
		}
	}
	// Each field counts.
	for _, x := range someSignatures {
		digest := impl.SignatureDigest(2, x)
		checkChanges(t, x, func(y impl.Signature) bool { return impl.SignatureDigest(2, y) == digest }, signatureFields[:8])
		x.Mark++
		if impl.SignatureDigest(2, x) == digest {
			t.Errorf("SignatureDigest(2, %v) does not depend on the mark", x)
		}
	}
}

func marked(marks ...int) []impl.Stamp {
	l := []impl.Stamp{}
	for _, mark := range marks {
		l = append(l, impl.Stamp{Authority: 1, Seq: 2, Time: 3, Digest: 4, Mark: mark})
	}
	return l
}

func checkStampsDigest(t *testing.T, method int, l []impl.Stamp, want int) {
	t.Helper()
	if got := impl.StampsDigest(method, l); got != want {
		t.Errorf("StampsDigest(%d, %v) = %d, want %d", method, l, got, want)
	}
}

func TestStampsDigest(t *testing.T) {
	for _, method := range someMethodIds {
		checkStampsDigest(t, method, nil, 0)
		checkStampsDigest(t, method, []impl.Stamp{}, 0)
	}
	checkStampsDigest(t, 2, marked(6), 1427556869)
	checkStampsDigest(t, 2, marked(6, 6), 2069974553)
	checkStampsDigest(t, 3, marked(6, 5, 4), 849305664)
	// The digest of these marks would be 0, and that of the next one is 1.
	checkStampsDigest(t, 2, marked(719926784), 1)
	checkStampsDigest(t, 2, marked(719926785), 1)
	checkStampsDigest(t, 2, marked(719926786), 2)
	checkStampsDigest(t, 2, marked(719926783), impl.Modulus-1)
	checkStampsDigest(t, 3, marked(6, 798888593), 1)
	for n := 1; n <= len(someValues); n++ {
		for _, method := range someMethodIds {
			want := max(1, hashSlowly(slices.Concat([]int{7, method}, someValues[:n])))
			checkStampsDigest(t, method, marked(someValues[:n]...), want)
		}
	}
	// Nothing but the marks and their order counts.
	checkStampsDigest(t, 3, []impl.Stamp{{Mark: 6}, {Authority: 9, Seq: -1, Time: -1, Digest: -1, Mark: 5}, {Mark: 4}}, 849305664)
	if impl.StampsDigest(3, marked(4, 5, 6)) == 849305664 {
		t.Error("StampsDigest does not depend on the order")
	}
}

func TestSignDocument(t *testing.T) {
	for _, d := range someDocuments {
		for _, k := range fewKeys {
			for _, method := range []int{0, 2, 99} {
				for commit := impl.CoAuthor; commit <= impl.CoWitness; commit++ {
					want := signatures.markedBy(k, signature(k.Number, 5, method, docDigestSlowly(method, d), commit, 0, 0, 0))
					got, ok := impl.SignDocument(fewKeys, k.Number, 5, method, d, commit)
					if !ok || got != want {
						t.Errorf("SignDocument(%d, 5, %d, %v, %d) = %v, %t, want %v", k.Number, method, d, commit, got, ok, want)
					}
					signatures.checkHolds(t, fewKeys, got, true)
				}
			}
		}
	}
}

// The digest of each document alone is signed.
func TestSignaturesOfOtherDocuments(t *testing.T) {
	for i, d := range someDocuments {
		x, _ := impl.SignDocument(fewKeys, 11, 5, 2, d, impl.CoAuthor)
		for j, other := range someDocuments {
			y := x
			y.Digest = impl.DocDigest(2, other)
			signatures.checkHolds(t, fewKeys, y, i == j)
		}
	}
}

func TestSignDocumentThatIsNotValid(t *testing.T) {
	check := func(keys []impl.Key, number int, serial int, method int, d impl.Document, commit int) {
		t.Helper()
		if x, ok := impl.SignDocument(keys, number, serial, method, d, commit); ok || x != (impl.Signature{}) {
			t.Errorf("SignDocument(%d, %d, %d, %v, %d) = %v, %t", number, serial, method, d, commit, x, ok)
		}
	}
	for _, d := range badDocuments {
		check(fewKeys, 11, 5, 2, d, impl.CoAuthor)
	}
	d := threeParts()
	for _, number := range []int{0, -1, 3, 99, 100, math.MinInt} {
		check(fewKeys, number, 5, 2, d, impl.CoAuthor)
	}
	for _, serial := range []int{0, -1, 1000, math.MaxInt} {
		check(fewKeys, 11, serial, 2, d, impl.CoAuthor)
	}
	for _, method := range []int{-1, 100, math.MinInt, math.MaxInt} {
		check(fewKeys, 11, 5, method, d, impl.CoAuthor)
	}
	for _, commit := range []int{0, -1, 4, math.MinInt, math.MaxInt} {
		check(fewKeys, 11, 5, 2, d, commit)
	}
	check(nil, 11, 5, 2, d, impl.CoAuthor)
}

func TestSignaturesLeaveArgumentsAlone(t *testing.T) {
	for _, list := range [][]impl.Key{{}, fewKeys, oddKeys} {
		keys := spareKeys(list)
		for _, x := range append(slices.Clone(someSignatures), impl.Signature{}) {
			checkUnchanged(t, "signatures", keys,
				func() { impl.SignDigest(keys, x) }, func() { impl.CheckSignature(keys, x) },
				func() { impl.SignDocument(keys, x.Key, 5, 2, threeParts(), 1) })
		}
		d := spareDocument(threeParts())
		checkUnchanged(t, "SignDocument", d.Parts, func() { impl.SignDocument(keys, 11, 5, 2, d, 1) })
		checkUnchanged(t, "SignDocument", d.Salts, func() { impl.SignDocument(keys, 11, 5, 2, d, 1) })
	}
	stamps := spareOf(marked(6, 5, 4), impl.Stamp{Mark: 7})
	checkUnchanged(t, "StampsDigest", stamps, func() { impl.StampsDigest(2, stamps) }, func() { impl.StampsDigest(2, stamps[:0]) })
}
