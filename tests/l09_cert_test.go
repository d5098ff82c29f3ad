package tests

import (
	"math"
	"slices"
	"testing"

	"loop.example/g00597/impl"
)

func cert(serial int, key int, owner int, from int, to int, issuer int) impl.Cert {
	return impl.Cert{Serial: serial, Key: key, Owner: owner, From: from, To: to, Issuer: issuer}
}

// someCerts are valid and state the right owners of fewKeys.
var someCerts = []impl.Cert{
	cert(5, 11, 1, 3, 9, 1), cert(1, 12, 1, 20, 100, 1), cert(999, 13, 2, 0, impl.MaxTime, 2),
	cert(2, 14, 2, 7, 7, 11), cert(500, 1, 90, 0, 0, 2), cert(3, 2, 90, impl.MaxTime, impl.MaxTime, 1), cert(77, 33, 83, 40, 41, 14),
}

var certFields = []field[impl.Cert]{
	{"Serial", func(x *impl.Cert) *int { return &x.Serial }, 1, 999},
	{"Key", func(x *impl.Cert) *int { return &x.Key }, 1, 99},
	{"Owner", func(x *impl.Cert) *int { return &x.Owner }, 0, 99},
	{"From", func(x *impl.Cert) *int { return &x.From }, 0, impl.MaxTime},
	{"To", func(x *impl.Cert) *int { return &x.To }, 0, impl.MaxTime},
	{"Issuer", func(x *impl.Cert) *int { return &x.Issuer }, 1, 99},
	{"Mark", func(x *impl.Cert) *int { return &x.Mark }, 0, impl.Modulus - 1},
}

var certs = statement[impl.Cert]{
	name:   "certificate",
	make:   impl.IssueCert,
	check:  impl.CheckCert,
	ints:   func(x impl.Cert) []int { return []int{101, x.Serial, x.Key, x.Owner, x.From, x.To, x.Issuer} },
	fields: certFields,
	key:    func(x *impl.Cert) *int { return &x.Issuer },
	mark:   func(x *impl.Cert) *int { return &x.Mark },
}

func spareCerts(l []impl.Cert) []impl.Cert {
	return spareOf(l, cert(5, 11, 1, 3, 9, 1))
}

func TestIsCert(t *testing.T) {
	fields := slices.Clone(certFields[:6])
	fields[3].high, fields[4].low = 700, 600
	checkFields(t, cert(1, 50, 0, 600, 700, 60), impl.IsCert, fields[:1])
	checkFields(t, cert(1, 50, 0, 600, 700, 60), impl.IsCert, fields[2:5])
	checkFields(t, cert(1, 50, 0, 600, 700, 30), impl.IsCert, fields[1:2])
	checkFields(t, cert(1, 30, 0, 600, 700, 60), impl.IsCert, fields[5:6])
	for _, x := range someCerts {
		// The mark does not matter.
		for _, mark := range []int{0, -1, math.MaxInt, math.MinInt} {
			x.Mark = mark
			if !impl.IsCert(x) {
				t.Errorf("IsCert(%v) = false", x)
			}
		}
	}
}

func TestIsCertOfKeysAndSpan(t *testing.T) {
	for k := range 102 {
		for issuer := range 102 {
			want := k >= 1 && k <= 99 && issuer >= 1 && issuer <= 99 && k != issuer
			if x := cert(1, k, 0, 0, 1, issuer); impl.IsCert(x) != want {
				t.Errorf("IsCert(%v) = %t", x, !want)
			}
		}
	}
	for _, s := range slices.Concat(badSpans, someSpans) {
		if x := cert(1, 2, 3, s.From, s.To, 4); impl.IsCert(x) != impl.IsSpan(s) {
			t.Errorf("IsCert(%v) = %t", x, impl.IsCert(x))
		}
	}
	if impl.IsCert(impl.Cert{}) {
		t.Error("the zero Cert is valid")
	}
}

func TestCertIntsAndSpan(t *testing.T) {
	all := append(slices.Clone(someCerts), impl.Cert{}, impl.Cert{Serial: -1, Key: 2, Owner: 3, From: math.MaxInt, To: math.MinInt, Issuer: 6, Mark: 7})
	certs.checkInts(t, impl.CertInts, all)
	for _, x := range all {
		if got := impl.CertSpan(x); got != span(x.From, x.To) {
			t.Errorf("CertSpan(%v) = %v", x, got)
		}
	}
	if got := impl.CertInts(cert(2, 3, 4, 5, 6, 7)); !slices.Equal(got, []int{101, 2, 3, 4, 5, 6, 7}) {
		t.Errorf("CertInts = %v", got)
	}
}

func TestIssueCert(t *testing.T) {
	marks := map[impl.Cert]int{cert(5, 11, 1, 3, 9, 1): 921881351, cert(999, 13, 2, 0, 10000, 2): 1433099596}
	for x, mark := range marks {
		if got := certs.made(t, fewKeys, x); got.Mark != mark {
			t.Errorf("IssueCert(%v) = %v, want the mark %d", x, got, mark)
		}
	}
	certs.checkAnyOldMark(t, someCerts)
}

func TestIssueCertThatIsNotValid(t *testing.T) {
	certs.checkRanges(t, someCerts)
	for _, x := range someCerts {
		same := x
		same.Issuer = x.Key
		certs.checkNotMade(t, fewKeys, same)
		if x.To > x.From {
			back := x
			back.From, back.To = x.To, x.From
			certs.checkNotMade(t, fewKeys, back)
		}
		// The key is there, but its number is not valid.
		for _, number := range []int{0, 100, -7} {
			other := x
			other.Key = number
			certs.checkNotMade(t, append(slices.Clone(fewKeys), key(number, x.Owner, 1, 0, 5)), other)
		}
	}
}

func TestIssueCertWithoutKey(t *testing.T) {
	for _, x := range someCerts {
		isKey := func(k impl.Key) bool { return k.Number == x.Key }
		isIssuer := func(k impl.Key) bool { return k.Number == x.Issuer }
		certs.checkNotMade(t, slices.DeleteFunc(slices.Clone(fewKeys), isKey), x)
		certs.checkNotMade(t, slices.DeleteFunc(slices.Clone(fewKeys), isIssuer), x)
		certs.checkNotMade(t, nil, x)
		for _, number := range []int{3, 15, 99} {
			certs.checkNotMade(t, fewKeys, cert(x.Serial, number, x.Owner, x.From, x.To, x.Issuer))
			certs.checkNotMade(t, fewKeys, cert(x.Serial, x.Key, x.Owner, x.From, x.To, number))
		}
	}
	// Without its key, nobody owns it; also not the owner 0.
	certs.checkNotMade(t, fewKeys[:1], cert(1, 11, 0, 0, 0, 1))
}

// The issuer can mark for another owner, but that does not check.
func TestCertOfAnotherOwner(t *testing.T) {
	for _, x := range someCerts {
		for _, owner := range []int{0, 1, 2, 3, 81, 82, 90, 99} {
			other := x
			other.Owner = owner
			certs.checkHolds(t, fewKeys, certs.made(t, fewKeys, other), owner == x.Owner)
		}
	}
}

// Each field of a certificate is protected by its mark.
func TestCertsAreCheckedAsTheyWereIssued(t *testing.T) {
	certs.checkMarks(t, someCerts)
}

// A check asks for all that IssueCert asks for, even if the mark is right.
func TestCheckCertAfterKeysChanged(t *testing.T) {
	for _, like := range someCerts {
		x := certs.made(t, fewKeys, like)
		_, subject := keySlowly(fewKeys, x.Key)
		_, issuer := keySlowly(fewKeys, x.Issuer)
		changes := []struct {
			place  int
			change func(k *impl.Key)
			want   bool
		}{
			{subject, func(k *impl.Key) { k.Owner++ }, false},
			{subject, func(k *impl.Key) { k.Number = 98 }, false},
			{subject, func(k *impl.Key) { k.Secret, k.Method, k.Born = 0, -1, -1 }, true},
			{issuer, func(k *impl.Key) { k.Secret++ }, false},
			{issuer, func(k *impl.Key) { k.Method++ }, false},
			{issuer, func(k *impl.Key) { k.Number = 98 }, false},
			{issuer, func(k *impl.Key) { k.Owner, k.Born = -1, 20000 }, true},
		}
		for i, c := range changes {
			keys := slices.Clone(fewKeys)
			c.change(&keys[c.place])
			if got := impl.CheckCert(keys, x); got != c.want {
				t.Errorf("CheckCert(%v, %v) = %t after change %d", keys, x, got, i)
			}
		}
	}
}

// Of keys with equal Numbers the first one counts, both as the one that marks and as the one that belongs to somebody.
func TestCertsOfEqualNumbers(t *testing.T) {
	keys := []impl.Key{key(4, 7, 1, 0, 70), key(5, 1, 2, 0, 80), key(4, 8, 1, 0, 71), key(5, 2, 2, 0, 81)}
	x := certs.made(t, keys, cert(1, 5, 1, 0, 9, 4))
	certs.checkHolds(t, keys, x, true)
	certs.checkHolds(t, keys[2:], x, false)
	certs.checkHolds(t, keys, certs.made(t, keys, cert(1, 5, 2, 0, 9, 4)), false)
	y := certs.made(t, keys[2:], cert(1, 5, 2, 0, 9, 4))
	certs.checkHolds(t, keys[2:], y, true)
	certs.checkHolds(t, keys, y, false)
}

// A key of which the owner is -1 is not one that is not there, but no certificate can name this owner.
func TestCertOfKeyWithoutOwner(t *testing.T) {
	keys := []impl.Key{key(4, 7, 1, 0, 70), key(5, -1, 2, 0, 80)}
	certs.checkNotMade(t, keys, cert(1, 5, -1, 0, 9, 4))
	certs.checkHolds(t, keys, certs.made(t, keys, cert(1, 5, 0, 0, 9, 4)), false)
}

func TestFindCert(t *testing.T) {
	l := []impl.Cert{cert(5, 11, 1, 3, 9, 1), {}, cert(7, 12, 1, 3, 9, 1), cert(5, 13, 2, 3, 9, 1), cert(-4, 0, 0, 9, 3, 0), cert(5, 11, 1, 3, 9, 1), cert(7, 12, 1, 3, 9, 1)}
	cases := []struct {
		l            []impl.Cert
		serial, want int
	}{
		{nil, 0, -1}, {nil, -1, -1}, {[]impl.Cert{}, 5, -1},
		{l, 5, 0}, {l, 7, 2}, {l, 0, 1}, {l, -4, 4}, {l, 6, -1}, {l, -1, -1}, {l, 5 + 1<<32, -1}, {l, math.MinInt, -1}, {l, math.MaxInt, -1},
		{l[1:], 5, 2}, {l[3:], 7, 3}, {l[4:], 5, 1},
	}
	for _, c := range cases {
		if got := impl.FindCert(c.l, c.serial); got != c.want {
			t.Errorf("FindCert(%v, %d) = %d, want %d", c.l, c.serial, got, c.want)
		}
	}
}

func TestCertsLeaveArgumentsAlone(t *testing.T) {
	for _, list := range [][]impl.Key{{}, fewKeys, oddKeys} {
		keys := spareKeys(list)
		for _, x := range append(slices.Clone(someCerts), cert(5, 11, 3, 0, 9, 1), impl.Cert{}) {
			checkUnchanged(t, "certificates", keys, func() { impl.IssueCert(keys, x) }, func() { impl.CheckCert(keys, x) })
		}
	}
	l := spareCerts(someCerts)
	checkUnchanged(t, "FindCert", l, func() { impl.FindCert(l, 77) }, func() { impl.FindCert(l, 78) })
}
