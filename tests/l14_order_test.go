package tests

import (
	"math"
	"slices"
	"testing"

	"loop.example/g00597/impl"
)

const signedDigest = 4711

// ownerKeys: 1 has two keys, 2, 3, 0 and 99 have one; the owners -1 and 100 are not valid, and the second key 21 counts for nobody.
var ownerKeys = []impl.Key{
	key(11, 1, 1, 0, 511), key(12, 1, 2, 0, 512), key(21, 2, 3, 0, 521), key(21, 7, 3, 0, 522),
	key(31, 3, 1, 0, 531), key(40, 0, 1, 0, 540), key(99, 99, 1, 0, 599), key(50, -1, 1, 0, 550), key(60, 100, 1, 0, 560), key(70, -5, 1, 0, 570),
}

// signatureBy returns a signature of signedDigest by a method that refers to the digest of another one.
func signatureBy(number int, method int, before int) impl.Signature {
	k, _ := keySlowly(ownerKeys, number)
	return signatures.markedBy(k, signature(number, 5, method, signedDigest, impl.CoApprove, 0, before, 0))
}

func rule(inOrder bool, owners ...int) impl.SignRule {
	return impl.SignRule{Owners: owners, InOrder: inOrder}
}

// signatureOfSlowly tells by the definition alone what SignatureOf returns.
func signatureOfSlowly(l []impl.Signature, owner int, digest int) int {
	for i, x := range l {
		k, found := keySlowly(ownerKeys, x.Key)
		if found >= 0 && impl.IsSignature(x) && x == signatures.markedBy(k, x) && k.Owner == owner && x.Digest == digest {
			return i
		}
	}
	return -1
}

func missingSlowly(r impl.SignRule, l []impl.Signature, digest int) []int {
	missing := []int{}
	for _, owner := range r.Owners {
		if signatureOfSlowly(l, owner, digest) == -1 {
			missing = append(missing, owner)
		}
	}
	return missing
}

func isRuleSlowly(r impl.SignRule) bool {
	owners := map[int]bool{}
	for _, owner := range r.Owners {
		if owner < 0 || owner > 99 {
			return false
		}
		owners[owner] = true
	}
	return len(owners) == len(r.Owners) && len(r.Owners) >= 1 && len(r.Owners) <= 4
}

func meetsSlowly(r impl.SignRule, l []impl.Signature, digest int) bool {
	if !isRuleSlowly(r) || len(missingSlowly(r, l, digest)) > 0 {
		return false
	}
	for i := 1; i < len(r.Owners) && r.InOrder; i++ {
		x := l[signatureOfSlowly(l, r.Owners[i], digest)]
		if x.Before != signatureDigestSlowly(x.Method, l[signatureOfSlowly(l, r.Owners[i-1], digest)]) {
			return false
		}
	}
	return true
}

func beforeSlowly(r impl.SignRule, l []impl.Signature, digest int, method int) int {
	missing := missingSlowly(r, l, digest)
	if !r.InOrder || len(missing) == 0 || missing[0] < 0 {
		return 0
	}
	place := slices.Index(r.Owners, missing[0])
	if place == 0 {
		return 0
	}
	i := signatureOfSlowly(l, r.Owners[place-1], digest)
	if i < 0 {
		return 0
	}
	return signatureDigestSlowly(method, l[i])
}

// checkRule checks all that is told of a rule and a list of signatures.
func checkRule(t *testing.T, r impl.SignRule, l []impl.Signature, digest int) {
	t.Helper()
	if got, want := impl.MeetsRule(ownerKeys, r, l, digest), meetsSlowly(r, l, digest); got != want {
		t.Errorf("MeetsRule(%v, %v, %d) = %t", r, l, digest, got)
	}
	missing := missingSlowly(r, l, digest)
	if got := impl.MissingOwners(ownerKeys, r, l, digest); !slices.Equal(got, missing) {
		t.Errorf("MissingOwners(%v, %v, %d) = %v, want %v", r, l, digest, got, missing)
	}
	next := -1
	if len(missing) > 0 {
		next = missing[0]
	}
	if got := impl.NextOwner(ownerKeys, r, l, digest); got != next {
		t.Errorf("NextOwner(%v, %v, %d) = %d, want %d", r, l, digest, got, next)
	}
	for _, method := range []int{0, 3, 4, -1, 100} {
		if got, want := impl.BeforeFor(ownerKeys, r, l, digest, method), beforeSlowly(r, l, digest, method); got != want {
			t.Errorf("BeforeFor(%v, %v, %d, %d) = %d, want %d", r, l, digest, method, got, want)
		}
	}
}

// checkMeets checks whether a rule is met, and all the rest.
func checkMeets(t *testing.T, r impl.SignRule, want bool, l ...impl.Signature) {
	t.Helper()
	if got := impl.MeetsRule(ownerKeys, r, l, signedDigest); got != want {
		t.Errorf("MeetsRule(%v, %v) = %t", r, l, got)
	}
	checkRule(t, r, l, signedDigest)
}

func TestIsSignRule(t *testing.T) {
	cases := []struct {
		owners []int
		want   bool
	}{
		{nil, false}, {[]int{}, false}, {[]int{5}, true}, {[]int{1, 2}, true}, {[]int{2, 1}, true}, {[]int{1, 2, 3, 4}, true}, {[]int{9, 0, 99, 5}, true},
		{[]int{1, 2, 3, 4, 5}, false}, {slices.Repeat([]int{1}, 5), false}, {make([]int, 1000), false},
		{[]int{1, 1}, false}, {[]int{1, 2, 1}, false}, {[]int{1, 2, 3, 1}, false}, {[]int{1, 2, 2, 3}, false}, {[]int{3, 1, 2, 2}, false}, {[]int{0, 0}, false},
		{[]int{0}, true}, {[]int{99}, true}, {[]int{-1}, false}, {[]int{100}, false}, {[]int{math.MinInt}, false}, {[]int{math.MaxInt}, false},
		{[]int{1, 1 + 1<<32}, false}, {[]int{-1, 1}, false},
	}
	for _, c := range cases {
		for _, inOrder := range []bool{false, true} {
			if got := impl.IsSignRule(rule(inOrder, c.owners...)); got != c.want {
				t.Errorf("IsSignRule(%v, %t) = %t", c.owners, inOrder, got)
			}
		}
	}
	for n := 1; n <= 4; n++ {
		for i := range n {
			for _, owner := range []int{-1, 0, 99, 100} {
				owners := []int{5, 6, 7, 8}[:n]
				owners[i] = owner
				if got := impl.IsSignRule(rule(false, owners...)); got != (owner == 0 || owner == 99) {
					t.Errorf("IsSignRule(%v) = %t", owners, got)
				}
			}
		}
	}
}

func TestSignatureOf(t *testing.T) {
	a, b, c := signatureBy(11, 2, 0), signatureBy(12, 3, 7), signatureBy(21, 3, 0)
	off, changed, other := a, a, a
	off.Mark++
	changed.Org = 1
	other.Digest++
	other = signatures.markedBy(ownerKeys[0], other)
	// The mark is right, but the signature is not valid.
	invalid := a
	invalid.Commit = 4
	invalid = signatures.markedBy(ownerKeys[0], invalid)
	unknown := signatures.markedBy(ownerKeys[0], signature(98, 5, 2, signedDigest, 1, 0, 0, 0))
	second := signatures.markedBy(ownerKeys[3], signature(21, 5, 2, signedDigest, 1, 0, 0, 0))
	cases := []struct {
		l     []impl.Signature
		owner int
		want  int
	}{
		{nil, 1, -1}, {[]impl.Signature{}, 1, -1}, {nil, -1, -1},
		{[]impl.Signature{a}, 1, 0}, {[]impl.Signature{a}, 2, -1}, {[]impl.Signature{a}, -1, -1}, {[]impl.Signature{a}, 11, -1},
		{[]impl.Signature{c, a}, 1, 1}, {[]impl.Signature{c, a}, 2, 0}, {[]impl.Signature{c, a}, 3, -1},
		// Of two of one owner, by the same key or by two keys, it is the first one.
		{[]impl.Signature{c, a, b}, 1, 1}, {[]impl.Signature{b, a}, 1, 0}, {[]impl.Signature{c, b, a, a}, 1, 1},
		// Those that do not check, or are of another digest, are passed over.
		{[]impl.Signature{off, changed, other, invalid, b}, 1, 4}, {[]impl.Signature{off}, 1, -1}, {[]impl.Signature{changed}, 1, -1},
		{[]impl.Signature{other}, 1, -1}, {[]impl.Signature{invalid}, 1, -1}, {[]impl.Signature{{}}, 0, -1},
		// Nobody has the key, or another one has this number first.
		{[]impl.Signature{unknown}, 1, -1}, {[]impl.Signature{unknown}, -1, -1}, {[]impl.Signature{second}, 7, -1}, {[]impl.Signature{second}, 2, -1},
		{[]impl.Signature{signatureBy(40, 1, 0)}, 0, 0}, {[]impl.Signature{signatureBy(99, 1, 0)}, 99, 0},
		// Owners need not be valid.
		{[]impl.Signature{signatureBy(50, 1, 0)}, -1, 0}, {[]impl.Signature{signatureBy(60, 1, 0)}, 100, 0},
	}
	for _, c := range cases {
		if got := impl.SignatureOf(ownerKeys, c.l, c.owner, signedDigest); got != c.want {
			t.Errorf("SignatureOf(%v, %d) = %d, want %d", c.l, c.owner, got, c.want)
		}
		if got := impl.SignatureOf(ownerKeys, c.l, c.owner, signedDigest-1); got != -1 {
			t.Errorf("SignatureOf(%v, %d) of another digest = %d", c.l, c.owner, got)
		}
		if got := impl.SignatureOf(nil, c.l, c.owner, signedDigest); got != -1 {
			t.Errorf("SignatureOf(%v, %d) without keys = %d", c.l, c.owner, got)
		}
	}
	if got := impl.SignatureOf(ownerKeys, []impl.Signature{a, other}, 1, signedDigest+1); got != 1 {
		t.Errorf("SignatureOf of the other digest = %d", got)
	}
}

func TestMeetsRuleInAnyOrder(t *testing.T) {
	a, b, c, d := signatureBy(12, 2, 0), signatureBy(21, 3, 5), signatureBy(31, 1, 6), signatureBy(40, 1, 0)
	checkMeets(t, rule(false, 1), true, a)
	checkMeets(t, rule(false, 1), true, b, a)
	checkMeets(t, rule(false, 1), false)
	checkMeets(t, rule(false, 1), false, b)
	for _, r := range []impl.SignRule{rule(false, 1, 2), rule(false, 2, 1)} {
		checkMeets(t, r, true, a, b)
		checkMeets(t, r, true, c, b, a)
		checkMeets(t, r, false, a)
		checkMeets(t, r, false, b)
		checkMeets(t, r, false, a, c, a)
	}
	four := []impl.Signature{a, b, c, d}
	checkMeets(t, rule(false, 3, 0, 2, 1), true, four...)
	for i := range four {
		checkMeets(t, rule(false, 3, 0, 2, 1), false, slices.Delete(slices.Clone(four), i, i+1)...)
	}
	// A signature that does not check, or of another digest, meets nothing.
	bad := b
	bad.After = 1
	checkMeets(t, rule(false, 1, 2), false, a, bad)
	checkMeets(t, rule(false, 1, 2), true, a, bad, b)
	for _, l := range [][]impl.Signature{nil, {a}, four} {
		for _, digest := range []int{signedDigest - 1, signedDigest + 1, 0, -1} {
			checkRule(t, rule(false, 1, 2), l, digest)
			if impl.MeetsRule(ownerKeys, rule(false, 1), l, digest) {
				t.Errorf("signatures of another digest than %d meet a rule", digest)
			}
		}
	}
}

func TestMeetsRuleInOrder(t *testing.T) {
	a := signatureBy(11, 2, 0)
	b := signatureBy(21, 4, impl.SignatureDigest(4, a))
	c := signatureBy(31, 9, impl.SignatureDigest(9, b))
	d := signatureBy(99, 0, impl.SignatureDigest(0, c))
	two, four := rule(true, 1, 2), rule(true, 1, 2, 3, 99)
	checkMeets(t, rule(true, 1), true, a)
	// What the first one refers to makes no difference, nor does the order of the list.
	checkMeets(t, rule(true, 2), true, b)
	checkMeets(t, two, true, a, b)
	checkMeets(t, two, true, d, b, c, a)
	checkMeets(t, four, true, a, b, c, d)
	checkMeets(t, four, true, d, c, b, a)
	checkMeets(t, rule(true, 2, 3), true, a, b, c)
	checkMeets(t, rule(true, 2, 1), false, a, b)
	checkMeets(t, rule(true, 1, 3), false, a, b, c)
	checkMeets(t, rule(true, 1, 3, 2), false, a, b, c)
	checkMeets(t, four, false, a, b, c)
	checkMeets(t, four, false, a, b, d)
	// Before is one off, 0, or by the method of the other signature.
	for _, before := range []int{b.Before + 1, b.Before - 1, 0, impl.SignatureDigest(2, a), impl.SignatureDigest(4, b), a.Mark, a.Digest} {
		wrong := signatureBy(21, 4, before)
		checkMeets(t, two, false, a, wrong)
		checkMeets(t, rule(false, 1, 2), true, a, wrong)
		// The first signature of an owner counts.
		checkMeets(t, two, false, a, wrong, b)
		checkMeets(t, two, true, a, b, wrong)
	}
	again := signatureBy(12, 2, 0)
	checkMeets(t, two, false, again, a, b)
	checkMeets(t, two, true, a, again, b)
	checkMeets(t, four, false, a, b, signatureBy(31, 9, 0), d)
	checkMeets(t, four, false, a, b, c, signatureBy(99, 0, 0))
}

// A rule that is not valid is not met, although nobody is missing.
func TestRulesThatAreNotValid(t *testing.T) {
	a, b, c, d, e := signatureBy(11, 2, 0), signatureBy(21, 4, 0), signatureBy(31, 1, 0), signatureBy(40, 1, 0), signatureBy(99, 1, 0)
	minus, beyond := signatureBy(50, 1, 0), signatureBy(60, 1, 0)
	all := []impl.Signature{a, b, c, d, e, minus, beyond}
	for _, owners := range [][]int{nil, {}, {1, 1}, {1, 2, 1}, {1, 2, 3, 0, 99}, {-1}, {100}, {1, -1}, {100, 2}} {
		for _, inOrder := range []bool{false, true} {
			r := rule(inOrder, owners...)
			if got := impl.MissingOwners(ownerKeys, r, all, signedDigest); len(got) > 0 {
				t.Errorf("MissingOwners(%v) = %v although all have signed", r, got)
			}
			checkMeets(t, r, false, all...)
			for i := range all {
				checkMeets(t, r, false, all[:i]...)
				checkMeets(t, r, false, all[i:]...)
			}
		}
	}
}

func TestMissingAndNextOwners(t *testing.T) {
	a, b := signatureBy(11, 2, 0), signatureBy(31, 4, 0)
	cases := []struct {
		owners  []int
		l       []impl.Signature
		missing []int
		next    int
	}{
		{nil, nil, nil, -1}, {nil, []impl.Signature{a}, nil, -1}, {[]int{1}, []impl.Signature{a}, nil, -1}, {[]int{1}, nil, []int{1}, 1}, {[]int{0}, nil, []int{0}, 0},
		{[]int{1, 2, 3}, nil, []int{1, 2, 3}, 1}, {[]int{3, 2, 1}, nil, []int{3, 2, 1}, 3}, {[]int{1, 2, 3}, []impl.Signature{a}, []int{2, 3}, 2},
		{[]int{1, 2, 3}, []impl.Signature{b}, []int{1, 2}, 1}, {[]int{3, 2, 1}, []impl.Signature{a, b}, []int{2}, 2}, {[]int{1, 3}, []impl.Signature{b, a}, nil, -1},
		// Rules that are not valid: an owner is named twice, or has a negative number.
		{[]int{2, 2}, nil, []int{2, 2}, 2}, {[]int{1, 2, 1, 2}, []impl.Signature{a}, []int{2, 2}, 2}, {[]int{1, 1}, []impl.Signature{a}, nil, -1},
		{[]int{1, -5, 2}, []impl.Signature{a}, []int{-5, 2}, -5}, {[]int{-1, 2}, nil, []int{-1, 2}, -1}, {[]int{100, 1, 2, 3, 4, 5, 6}, []impl.Signature{b}, []int{100, 1, 2, 4, 5, 6}, 100},
	}
	for _, c := range cases {
		for _, inOrder := range []bool{false, true} {
			r := rule(inOrder, c.owners...)
			if got := impl.MissingOwners(ownerKeys, r, c.l, signedDigest); !slices.Equal(got, c.missing) {
				t.Errorf("MissingOwners(%v, %v) = %v, want %v", r, c.l, got, c.missing)
			}
			if got := impl.NextOwner(ownerKeys, r, c.l, signedDigest); got != c.next {
				t.Errorf("NextOwner(%v, %v) = %d, want %d", r, c.l, got, c.next)
			}
		}
	}
}

func TestBeforeFor(t *testing.T) {
	a := signatureBy(11, 2, 0)
	b := signatureBy(21, 4, impl.SignatureDigest(4, a))
	loose := signatureBy(21, 4, 0)
	cases := []struct {
		r    impl.SignRule
		l    []impl.Signature
		want *impl.Signature
	}{
		{rule(true, 1, 2, 3), []impl.Signature{a}, &a}, {rule(true, 1, 2, 3), []impl.Signature{b, a}, &b}, {rule(true, 2, 3), []impl.Signature{b, a}, &b},
		// It does not matter whether those before are in order.
		{rule(true, 1, 2, 3), []impl.Signature{a, loose}, &loose}, {rule(true, 1, 2, 3), []impl.Signature{a, loose, b}, &loose},
		// The next one is the first one, although a later one has signed.
		{rule(true, 1, 2, 3), nil, nil}, {rule(true, 1, 2, 3), []impl.Signature{b}, nil}, {rule(true, 1), nil, nil},
		// There is no next one.
		{rule(true, 1, 2), []impl.Signature{a, b}, nil}, {rule(true, 1), []impl.Signature{a}, nil}, {rule(true), []impl.Signature{a}, nil},
		// It need not be in order.
		{rule(false, 1, 2, 3), []impl.Signature{a}, nil}, {rule(false, 1, 2, 3), nil, nil},
		// Rules that are not valid.
		{rule(true, 1, 1, 2), []impl.Signature{a}, &a}, {rule(true, 2, 1, 2), []impl.Signature{a}, nil}, {rule(true, 1, 100), []impl.Signature{a}, &a}, {rule(true, 1, 2, 2), []impl.Signature{a}, &a},
		{rule(true, 1, 2, 3, 4, 5, 6), []impl.Signature{a, b}, &b},
		{rule(true, 1, -5, 2), []impl.Signature{a}, nil}, {rule(true, 1, -1), []impl.Signature{a}, nil}, {rule(true, -1, 2), nil, nil},
	}
	for _, c := range cases {
		for _, method := range []int{0, 2, 4, 99, 100, -1, math.MinInt} {
			want := 0
			if c.want != nil {
				want = signatureDigestSlowly(method, *c.want)
			}
			if got := impl.BeforeFor(ownerKeys, c.r, c.l, signedDigest, method); got != want {
				t.Errorf("BeforeFor(%v, %v, %d) = %d, want %d", c.r, c.l, method, got, want)
			}
			if got := impl.BeforeFor(ownerKeys, c.r, c.l, signedDigest+1, method); got != 0 {
				t.Errorf("BeforeFor(%v, %v, %d) of another digest = %d", c.r, c.l, method, got)
			}
		}
	}
}

// Whoever signs next with what BeforeFor tells, by whatever method, meets the rule in the end.
func TestSigningInTurn(t *testing.T) {
	numbers := map[int]int{1: 12, 2: 21, 3: 31, 0: 40}
	for _, owners := range [][]int{{1}, {1, 2}, {2, 1}, {3, 0, 1}, {0, 3, 2, 1}} {
		r, l := rule(true, owners...), []impl.Signature{}
		for i, owner := range owners {
			checkMeets(t, r, false, l...)
			if next := impl.NextOwner(ownerKeys, r, l, signedDigest); next != owner {
				t.Fatalf("NextOwner(%v, %v) = %d, want %d", r, l, next, owner)
			}
			l = append(l, signatureBy(numbers[owner], 7*i, impl.BeforeFor(ownerKeys, r, l, signedDigest, 7*i)))
		}
		checkMeets(t, r, true, l...)
		slices.Reverse(l)
		checkMeets(t, r, true, l...)
	}
}

// All lists of up to three of some signatures are compared with the definition, for many rules.
func TestRulesAsDefined(t *testing.T) {
	a, other := signatureBy(11, 2, 0), signatureBy(12, 2, 0)
	b, loose := signatureBy(21, 4, impl.SignatureDigest(4, a)), signatureBy(21, 4, 0)
	c := signatureBy(31, 9, impl.SignatureDigest(9, b))
	bad := a
	bad.Mark--
	pool := []impl.Signature{a, other, b, loose, c, bad, signatureBy(50, 1, 0), signatureBy(70, 1, 0)}
	rules := [][]int{{}, {1}, {2}, {1, 2}, {2, 1}, {1, 2, 3}, {3, 2, 1}, {1, 1}, {1, 2, 1}, {-1, 2}, {1, -5, 2}, {-5}, {2, 2, 3}, {1, 2, 3, 0, 99}}
	for _, x := range pool {
		for _, y := range pool {
			for _, z := range pool {
				for _, owners := range rules {
					for _, inOrder := range []bool{false, true} {
						checkRule(t, rule(inOrder, owners...), []impl.Signature{x, y, z}, signedDigest)
					}
				}
			}
		}
	}
}

func TestRulesLeaveArgumentsAlone(t *testing.T) {
	a := signatureBy(11, 2, 0)
	b := signatureBy(21, 4, impl.SignatureDigest(4, a))
	keys := spareKeys(ownerKeys)
	for _, owners := range [][]int{{}, {1}, {1, 2}, {1, 2, 3}, {1, 2, 1, 3, 5, 7}} {
		for _, list := range [][]impl.Signature{{}, {a}, {b, a}} {
			l := spareSignatures(list)
			for _, inOrder := range []bool{false, true} {
				r := impl.SignRule{Owners: spareInts(owners), InOrder: inOrder}
				missing := func() []int { return impl.MissingOwners(keys, r, l, signedDigest) }
				calls := []func(){
					func() { impl.IsSignRule(r) },
					func() { impl.SignatureOf(keys, l, 1, signedDigest) },
					func() { impl.MeetsRule(keys, r, l, signedDigest) },
					func() { missing() },
					func() { impl.NextOwner(keys, r, l, signedDigest) },
					func() { impl.BeforeFor(keys, r, l, signedDigest, 3) },
				}
				checkUnchanged(t, "rules", keys, calls...)
				checkUnchanged(t, "rules", l, calls...)
				checkUnchanged(t, "rules", r.Owners, calls...)
				checkApart(t, "MissingOwners", r.Owners, -8, -9, missing)
			}
		}
	}
}
