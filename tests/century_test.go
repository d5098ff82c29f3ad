package tests

import "loop.example/g00597/impl"

// centuryMethods: 1 is broken at 50, 2 at 120, and 3 never.
var centuryMethods = []impl.Method{
	method(1, 0, 40, 50), method(2, 10, 110, 120), method(3, 90, impl.Never, impl.Never),
}

// centuryKeys: 1 and 2 issue certificates; 11 and 12 are of the person 1, and 13 of the person 2; 21 is of the organization 50; 31 to 34 are of authorities.
// The method of 13 is unknown.
var centuryKeys = []impl.Key{
	key(1, 90, 2, 0, 501), key(2, 90, 1, 0, 502),
	key(11, 1, 1, 5, 511), key(12, 1, 2, 20, 512), key(13, 2, 9, 0, 513), key(21, 50, 2, 0, 521),
	key(31, 81, 1, 0, 531), key(32, 82, 2, 10, 532), key(33, 83, 2, 10, 533), key(34, 84, 3, 90, 534),
}

// centuryAuthorities: the key of 5 is not there.
var centuryAuthorities = []impl.Authority{
	authority(1, 31, 1), authority(2, 32, 1), authority(3, 33, 0), authority(4, 34, 5), authority(5, 97, 2),
}

func centuryFrame(now int, liars int) impl.Frame {
	return impl.Frame{Keys: centuryKeys, Authorities: centuryAuthorities, Methods: centuryMethods, Liars: liars, Now: now}
}

// stampBy returns a stamp with the mark of its authority's key, if there is one.
func stampBy(id int, seq int, time int, digest int) impl.Stamp {
	a, _ := authoritySlowly(centuryAuthorities, id)
	k, _ := keySlowly(centuryKeys, a.Key)
	s := stamp(id, seq, time, digest)
	s.Mark = markSlowly(k, stampIntsSlowly(s))
	return s
}

// stampsBy returns stamps of several authorities over one digest at one time.
func stampsBy(time int, digest int, ids ...int) []impl.Stamp {
	l := []impl.Stamp{}
	for _, id := range ids {
		l = append(l, stampBy(id, time, time, digest))
	}
	return l
}

// renewalBy returns a renewal of a leaf, without other leaves, at a time.
func renewalBy(count int, method int, leaf int, time int, ids ...int) impl.Renewal {
	return impl.Renewal{Count: count, Method: method, Root: leaf, Stamps: stampsBy(time, leaf, ids...)}
}

// renewed is what is told about one more renewal of a strand.
type renewed struct {
	count  int
	method int
	time   int
	ids    []int
	// spoil changes the renewal after it was made; nil if it stays right.
	spoil func(r *impl.Renewal)
}

func renewAt(count int, method int, time int, ids ...int) renewed {
	return renewed{count, method, time, ids, nil}
}

// strandWith returns the strand with these pieces, and the renewals one after the other, each over the one before as it is, spoiled or not.
func strandWith(d impl.Document, pieces []impl.Piece, renewals ...renewed) impl.Strand {
	s := impl.Strand{Pieces: pieces}
	for _, r := range renewals {
		before := 0
		if n := len(s.Chain); n > 0 {
			before = renewalDigestSlowly(r.method, s.Chain[n-1])
		}
		leaf := leafSlowly(r.method, docDigestSlowly(r.method, d), pieces[:r.count], before)
		s.Chain = append(s.Chain, renewalBy(r.count, r.method, leaf, r.time, r.ids...))
		if r.spoil != nil {
			r.spoil(&s.Chain[len(s.Chain)-1])
		}
	}
	return s
}

// markedInCentury returns x with the mark of its key of centuryKeys, if there is one.
func markedInCentury[T comparable](s statement[T], x T) T {
	k, _ := keySlowly(centuryKeys, *s.key(&x))
	return s.markedBy(k, x)
}

func certOf(serial int, key int, owner int, from int, to int, issuer int) impl.Cert {
	return markedInCentury(certs, cert(serial, key, owner, from, to, issuer))
}

func statusOf(serial int, asOf int, ended int, issuer int) impl.Status {
	return markedInCentury(statuses, status(serial, asOf, ended, issuer))
}

func mandateOf(org int, person int, from int, to int, key int) impl.Mandate {
	return markedInCentury(mandates, mandate(org, person, from, to, key))
}

// signedOf returns a signature of threeParts with the certificate 5.
func signedOf(key int, method int, org int, after int) impl.Signature {
	return markedInCentury(signatures, signature(key, 5, method, docDigestSlowly(method, threeParts()), impl.CoAuthor, org, 0, after))
}

// evidenceOf returns evidence with these strands alone.
func evidenceOf(strands ...impl.Strand) impl.Evidence {
	return impl.Evidence{Strands: strands}
}

// allDocsSlowly returns the digests of d for the renewals of each strand.
func allDocsSlowly(e impl.Evidence, d impl.Document) [][]int {
	all := [][]int{}
	for _, s := range e.Strands {
		all = append(all, docsSlowly(s, d))
	}
	return all
}
