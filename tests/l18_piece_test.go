package tests

import (
	"math"
	"slices"
	"testing"

	"loop.example/g00597/impl"
)

// pieceKind is a kind of pieces: the functions that make and read them, and what the document says of them.
type pieceKind[T comparable] struct {
	statement[T]
	kind int
	make func(x T) impl.Piece
	read func(p impl.Piece) (T, bool)
	list []T
}

var (
	certPieces    = pieceKind[impl.Cert]{certs, 101, impl.CertPiece, impl.PieceCert, someCerts}
	statusPieces  = pieceKind[impl.Status]{statuses, 102, impl.StatusPiece, impl.PieceStatus, someStatuses}
	signPieces    = pieceKind[impl.Signature]{signatures, 104, impl.SignPiece, impl.PieceSign, someSignatures}
	mandatePieces = pieceKind[impl.Mandate]{mandates, 105, impl.MandatePiece, impl.PieceMandate, someMandates}
)

// stampPiecesOf returns the kind of time stamps that were marked with one key, which they do not have themselves.
func stampPiecesOf(number int) pieceKind[impl.Stamp] {
	return pieceKind[impl.Stamp]{
		statement[impl.Stamp]{
			name:   "stamp",
			ints:   stampIntsSlowly,
			fields: stampFields,
			key:    func(*impl.Stamp) *int { n := number; return &n },
			mark:   func(s *impl.Stamp) *int { return &s.Mark },
		},
		103,
		func(s impl.Stamp) impl.Piece { return impl.StampPiece(number, s) },
		impl.PieceStamp,
		someStamps,
	}
}

// pieceReader tells whether a piece is of a kind. If it is not, but something is returned, then isZero is false.
type pieceReader struct {
	kind int
	read func(p impl.Piece) (ok bool, isZero bool)
}

func readerOf[T comparable](kind int, read func(impl.Piece) (T, bool)) pieceReader {
	return pieceReader{kind, func(p impl.Piece) (bool, bool) {
		var zero T
		x, ok := read(p)
		return ok, x == zero
	}}
}

var pieceReaders = []pieceReader{
	readerOf(101, impl.PieceCert), readerOf(102, impl.PieceStatus), readerOf(103, impl.PieceStamp), readerOf(104, impl.PieceSign), readerOf(105, impl.PieceMandate),
}

var pieceLengths = map[int]int{101: 7, 102: 5, 103: 5, 104: 9, 105: 6}

func piece(key int, mark int, ints ...int) impl.Piece {
	return impl.Piece{Key: key, Ints: ints, Mark: mark}
}

func samePiece(a impl.Piece, b impl.Piece) bool {
	return a.Key == b.Key && a.Mark == b.Mark && slices.Equal(a.Ints, b.Ints)
}

// pieceOfKind returns a piece with so many numbers, the first of which is that of a kind.
func pieceOfKind(kind int, n int) impl.Piece {
	p := impl.Piece{Key: 4}
	for i := range n {
		p.Ints = append(p.Ints, kind*max(0, 1-i)+4*min(1, i))
	}
	return p
}

// checkNoKind checks that p has been made from nothing, whatever its mark is.
func checkNoKind(t *testing.T, p impl.Piece) {
	t.Helper()
	if got := impl.KindOfPiece(p); got != 0 {
		t.Errorf("KindOfPiece(%v) = %d", p, got)
	}
	for _, r := range pieceReaders {
		if ok, isZero := r.read(p); ok || !isZero {
			t.Errorf("%v is read as a piece of the kind %d", p, r.kind)
		}
	}
	k := key(p.Key, 1, 2, 3, 44)
	p.Mark = markSlowly(k, p.Ints)
	if impl.CheckPiece([]impl.Key{k}, p) {
		t.Errorf("CheckPiece(%v) = true", p)
	}
}

// checkPiece checks the piece of x.
func (k pieceKind[T]) checkPiece(t *testing.T, x T) impl.Piece {
	t.Helper()
	p, want := k.make(x), piece(*k.key(&x), *k.mark(&x), k.ints(x)...)
	if !samePiece(p, want) {
		t.Errorf("the piece of the %s %v is %v, want %v", k.name, x, p, want)
	}
	fill(k.make(x).Ints, -9)
	if !samePiece(p, want) || !samePiece(k.make(x), want) {
		t.Errorf("two pieces of the %s %v share memory", k.name, x)
	}
	if got := impl.KindOfPiece(p); got != k.kind {
		t.Errorf("KindOfPiece(%v) = %d", p, got)
	}
	if got, ok := k.read(p); !ok || got != x {
		t.Errorf("what %v was made from is %v, %t, want %v", p, got, ok, x)
	}
	for _, r := range pieceReaders {
		if ok, isZero := r.read(p); ok != (r.kind == k.kind) || !ok && !isZero {
			t.Errorf("whether %v can be read as a piece of the kind %d: %t", p, r.kind, ok)
		}
	}
	return p
}

// checkKind checks all pieces of a kind, also of what is not valid.
func (k pieceKind[T]) checkKind(t *testing.T) {
	t.Helper()
	var zero T
	k.checkPiece(t, zero)
	for _, x := range k.list {
		k.checkPiece(t, x)
		for _, f := range k.fields {
			for _, n := range []int{f.low - 1, f.low, f.high, f.high + 1, math.MinInt, math.MaxInt} {
				k.checkPiece(t, f.with(x, n))
			}
		}
	}
}

// checkOtherKeys checks that a piece with another key than its own has been made from nothing.
func (k pieceKind[T]) checkOtherKeys(t *testing.T) {
	t.Helper()
	for _, x := range k.list {
		for _, number := range []int{0, -1, 50, *k.key(&x) + 1, *k.key(&x) - 1, *k.key(&x) + 1<<32, math.MinInt, math.MaxInt} {
			p := k.make(x)
			p.Key = number
			other := key(number, 1, 2, 3, 44)
			p.Mark = markSlowly(other, p.Ints)
			var zero T
			if got, ok := k.read(p); ok || got != zero || impl.CheckPiece([]impl.Key{other}, p) {
				t.Errorf("%v is a piece of the %s %v", p, k.name, got)
			}
			if got := impl.KindOfPiece(p); got != k.kind {
				t.Errorf("KindOfPiece(%v) = %d", p, got)
			}
		}
	}
}

// checkMarked checks that pieces of what was marked check, also of what is not valid, but with no other mark, key or number.
func (k pieceKind[T]) checkMarked(t *testing.T) {
	t.Helper()
	for _, x := range k.list {
		own, _ := keySlowly(fewKeys, *k.key(&x))
		p := k.make(k.markedBy(own, x))
		checkHoldsPiece(t, fewKeys, p, true)
		checkHoldsPiece(t, []impl.Key{own}, p, true)
		checkHoldsPiece(t, []impl.Key{own, key(own.Number, 1, 2, 3, 44)}, p, true)
		checkHoldsPiece(t, []impl.Key{key(own.Number, 1, 2, 3, 44), own}, p, false)
		checkHoldsPiece(t, nil, p, false)
		for _, mark := range []int{p.Mark + 1, p.Mark - 1, 0, -p.Mark, p.Mark + impl.Modulus} {
			checkHoldsPiece(t, fewKeys, impl.Piece{Key: p.Key, Ints: p.Ints, Mark: mark}, false)
		}
		for _, f := range k.fields {
			if f.of(&x) == k.key(&x) || f.name == "Mark" {
				continue
			}
			checkHoldsPiece(t, fewKeys, k.make(k.markedBy(own, f.with(x, f.high+1))), true)
			checkHoldsPiece(t, fewKeys, k.make(f.with(k.markedBy(own, x), *f.of(&x)+1)), false)
		}
	}
}

func checkHoldsPiece(t *testing.T, keys []impl.Key, p impl.Piece, want bool) {
	t.Helper()
	if got := impl.CheckPiece(keys, p); got != want {
		t.Errorf("CheckPiece(%v, %v) = %t", keys, p, got)
	}
}

func TestPieceConstants(t *testing.T) {
	if impl.PcCert != 101 || impl.PcStatus != 102 || impl.PcStamp != 103 || impl.PcSign != 104 || impl.PcMandate != 105 {
		t.Error("the kinds have other numbers")
	}
}

func TestKindOfPiece(t *testing.T) {
	for kind := 99; kind <= 107; kind++ {
		for n := range 13 {
			p := pieceOfKind(kind, n)
			if n == 0 || n != pieceLengths[kind] {
				checkNoKind(t, p)
				continue
			}
			if got := impl.KindOfPiece(p); got != kind {
				t.Errorf("KindOfPiece(%v) = %d", p, got)
			}
		}
	}
	checkNoKind(t, impl.Piece{})
	checkNoKind(t, impl.Piece{Ints: []int{}})
	for _, first := range []int{0, -1, -101, 1, 101 + 1<<32, 103 - 1<<32, math.MinInt, math.MaxInt} {
		for _, n := range []int{1, 5, 6, 7, 9} {
			checkNoKind(t, pieceOfKind(first, n))
		}
	}
	checkNoKind(t, piece(1, 2, append([]int{101}, make([]int, 1000)...)...))
	// Neither the key nor the mark matters.
	for _, n := range []int{0, -1, 5, math.MinInt, math.MaxInt} {
		if got := impl.KindOfPiece(piece(n, n, 102, n, n, n, n)); got != 102 {
			t.Errorf("KindOfPiece with the numbers %d = %d", n, got)
		}
	}
}

func TestPiecesKeepWhatTheyWereMadeFrom(t *testing.T) {
	certPieces.checkKind(t)
	statusPieces.checkKind(t)
	signPieces.checkKind(t)
	mandatePieces.checkKind(t)
	for _, number := range []int{31, 0, -1, 100, math.MinInt, math.MaxInt} {
		stampPiecesOf(number).checkKind(t)
	}
}

func TestPiecesOfOtherKeys(t *testing.T) {
	certPieces.checkOtherKeys(t)
	statusPieces.checkOtherKeys(t)
	signPieces.checkOtherKeys(t)
	mandatePieces.checkOtherKeys(t)
	// The subject of a certificate, or its owner, is not who marked it.
	for _, number := range []int{11, 1} {
		p := impl.CertPiece(cert(5, 11, 1, 3, 9, 2))
		p.Key = number
		if x, ok := impl.PieceCert(p); ok || x != (impl.Cert{}) {
			t.Errorf("PieceCert(%v) = %v, %t", p, x, ok)
		}
	}
}

func TestCheckPiece(t *testing.T) {
	certPieces.checkMarked(t)
	statusPieces.checkMarked(t)
	signPieces.checkMarked(t)
	mandatePieces.checkMarked(t)
	for _, k := range fewKeys {
		stampPiecesOf(k.Number).checkMarked(t)
	}
	checkHoldsPiece(t, fewKeys, impl.Piece{}, false)
	// A key with the number 0 is one like others.
	zero := key(0, 1, 2, 3, 44)
	checkHoldsPiece(t, []impl.Key{zero}, piece(0, markSlowly(zero, []int{103, 1, 2, 3, 4}), 103, 1, 2, 3, 4), true)
}

// sortedPieceList is in ascending order: by the first number that differs, the shorter one first, then by key, and then by mark.
var sortedPieceList = []impl.Piece{
	piece(-5, 9), piece(0, -1), piece(0, 0), piece(0, 1), piece(7, 0),
	piece(9, 9, math.MinInt), piece(9, 9, -3, 100), piece(9, 9, 0), piece(0, 0, 0, 0), piece(9, 9, 1, 2), piece(9, 10, 1, 2), piece(10, 0, 1, 2), piece(10, 5, 1, 2),
	piece(0, 0, 1, 2, -1), piece(-1, 0, 1, 2, 0), piece(0, 0, 1, 2, 0), piece(0, 0, 1, 3), piece(0, 0, 2), piece(math.MinInt, 0, 5, 5), piece(math.MaxInt, 0, 5, 5),
	piece(1, math.MinInt, 101, 5, 5), piece(1, math.MaxInt, 101, 5, 5), piece(0, 0, 102), piece(0, 0, math.MaxInt),
}

func TestOrderOfPieces(t *testing.T) {
	for i, a := range sortedPieceList {
		for j, b := range sortedPieceList {
			b.Ints = slices.Clone(b.Ints)
			if impl.PieceBefore(a, b) != (i < j) || impl.EqualPieces(a, b) != (i == j) {
				t.Errorf("of %v and %v: PieceBefore = %t, EqualPieces = %t", a, b, impl.PieceBefore(a, b), impl.EqualPieces(a, b))
			}
		}
	}
	a, b := impl.Piece{Key: 3, Mark: 4}, impl.Piece{Key: 3, Ints: []int{}, Mark: 4}
	if !impl.EqualPieces(a, b) || !impl.EqualPieces(b, a) || impl.PieceBefore(a, b) || impl.PieceBefore(b, a) {
		t.Error("nil and empty Ints differ")
	}
}

// sparePiece returns p with room behind its numbers.
func sparePiece(p impl.Piece) impl.Piece {
	p.Ints = spareInts(p.Ints)
	return p
}

func TestPiecesLeaveArgumentsAlone(t *testing.T) {
	keys := spareKeys(fewKeys)
	for _, p := range append(slices.Clone(sortedPieceList), impl.CertPiece(someCerts[0]), impl.StatusPiece(someStatuses[0]), impl.StampPiece(31, someStamps[0]), impl.SignPiece(someSignatures[0]), impl.MandatePiece(someMandates[0])) {
		p = sparePiece(p)
		checkUnchanged(t, "pieces", p.Ints,
			func() { impl.KindOfPiece(p) }, func() { impl.PieceCert(p) }, func() { impl.PieceStatus(p) }, func() { impl.PieceStamp(p) }, func() { impl.PieceSign(p) }, func() { impl.PieceMandate(p) },
			func() { impl.CheckPiece(keys, p) }, func() { impl.PieceBefore(p, p) }, func() { impl.PieceBefore(p, impl.Piece{}) }, func() { impl.EqualPieces(p, p) })
		checkUnchanged(t, "CheckPiece", keys, func() { impl.CheckPiece(keys, p) })
	}
}
