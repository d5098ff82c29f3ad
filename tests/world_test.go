package tests

import (
	"math"
	"math/rand/v2"
	"reflect"
	"slices"

	"loop.example/g00597/impl"
)

// pages returns a document with two parts and this title.
func pages(title int) impl.Document {
	return document(title, []string{"a", "bc"}, 5, 6)
}

// worldAt returns a new world at another time.
func worldAt(now int, liars int) impl.World {
	w := impl.NewWorld(liars)
	w.Frame.Now = now
	return w
}

func event(kind int, numbers ...int) impl.Event {
	n := append(slices.Clone(numbers), 0, 0, 0, 0)
	return impl.Event{Kind: kind, A: n[0], B: n[1], C: n[2], D: n[3]}
}

func signing(i int, key int, d impl.Document, org int, keep int) impl.Event {
	return impl.Event{Kind: impl.EvSign, A: i, B: key, C: org, D: keep, Doc: d}
}

func renewing(i int, lie int, ids ...int) impl.Event {
	return impl.Event{Kind: impl.EvRenew, A: i, B: lie, Ids: ids}
}

func forging(i int, key int, d impl.Document) impl.Event {
	return impl.Event{Kind: impl.EvForge, A: i, B: key, Doc: d}
}

// busyWorld is a world at 52 with three items in two archives: 1 by 12 and 3 forged by 11 in the second one, 2 by 13 in the first one.
// The item 1 was answered for and renewed, and 1 is lying.
func busyWorld() impl.World {
	w := worldAt(22, 1)
	for _, e := range []impl.Event{
		signing(1, 12, pages(1), 0, 9000), event(impl.EvTick, 3), event(impl.EvAnswer, 1), renewing(1, -5, 1, 2), event(impl.EvRevoke, 0), event(impl.EvTick, 20),
		signing(0, 13, pages(2), 0, 60), event(impl.EvTick, 7), forging(1, 11, pages(3)),
	} {
		next, ok := happenSlowly(w, e)
		if !ok {
			panic(e)
		}
		w = next
	}
	return w
}

// whereSlowly returns the indices of the first archive with an item with this Id and of the item; -1 and -1 if there is none.
func whereSlowly(w impl.World, id int) (int, int) {
	for i, a := range w.Archives {
		for k, x := range a.Items {
			if x.Id == id {
				return i, k
			}
		}
	}
	return -1, -1
}

// isStolenSlowly tells by the definition alone what IsStolen returns.
func isStolenSlowly(f impl.Frame, number int) bool {
	k, i := keySlowly(f.Keys, number)
	return i >= 0 && f.Now >= breakSlowly(f.Methods, k.Method)
}

func isBornSlowly(f impl.Frame, number int) bool {
	k, i := keySlowly(f.Keys, number)
	return i >= 0 && k.Born <= f.Now
}

// happenSlowly tells by the definitions alone what ApplyEvent returns.
func happenSlowly(w impl.World, e impl.Event) (impl.World, bool) {
	next := clone(w)
	if !changeSlowly(&next, e) {
		return clone(w), false
	}
	return next, true
}

func changeSlowly(w *impl.World, e impl.Event) bool {
	now, best := w.Frame.Now, bestSlowly(w.Frame.Methods, w.Frame.Now)
	hasA, hasB := e.A >= 0 && e.A < len(w.Archives), e.B >= 0 && e.B < len(w.Archives)
	ok := false
	switch e.Kind {
	case 1:
		ok = e.A >= 0 && e.A <= 100 && now+e.A <= 10000
		w.Frame.Now += e.A
	case 2:
		ok = isBornSlowly(w.Frame, e.B) && signSlowly(w, e.A, e.B, e.Doc, e.C, e.D)
	case 3:
		ok = answerSlowly(w, e.A)
	case 4:
		ok = e.A >= 0 && e.A < len(w.Ended) && w.Ended[e.A] == -1
		if ok {
			w.Ended[e.A] = now + 1
		}
	case 5:
		ok = hasA && best >= 0 && e.B >= -10000 && e.B <= 10000 && renewSlowly(w, e.A, best, e.Ids, e.B)
	case 6:
		if hasA && hasB && e.A != e.B && best >= 0 {
			w.Archives[e.A], w.Archives[e.B], ok = movedSlowly(w.Archives[e.A], w.Archives[e.B], []int{e.C}, best)
		}
	case 7:
		ok = hasA
		if ok {
			w.Archives[e.A].Items = slices.DeleteFunc(w.Archives[e.A].Items, func(x impl.Item) bool { return x.Keep < now })
		}
	case 8:
		w.Forged = append(w.Forged, w.Next)
		ok = isStolenSlowly(w.Frame, e.B) && signSlowly(w, e.A, e.B, e.Doc, 0, 10000)
	case 9:
		ok = best >= 0 && slices.Contains(w.Forged, e.A) && backdateSlowly(w, e.A, best, e.B)
	case 10:
		k := namedSlowly(w, e.A)
		ok = k >= 0 && isStolenSlowly(w.Frame, w.Certs[k].Issuer) && tellSlowly(w, e.A, k, e.B, -1)
	}
	return ok
}

func signSlowly(w *impl.World, i int, number int, d impl.Document, org int, keep int) bool {
	k, _ := keySlowly(w.Frame.Keys, number)
	for _, c := range w.Certs {
		if c.Key != number {
			continue
		}
		method := bestSlowly(w.Frame.Methods, w.Frame.Now)
		x := signatures.markedBy(k, signature(number, c.Serial, method, anyDigestSlowly(method, d), 1, org, 0, 0))
		if i < 0 || i >= len(w.Archives) || !impl.IsSignature(x) {
			return false
		}
		item := impl.Item{Id: w.Next, Keep: keep, Doc: clone(d), Sig: x, Strand: impl.Strand{Pieces: []impl.Piece{impl.SignPiece(x), impl.CertPiece(c)}}}
		added, ok := addedSlowly(w.Archives[i], item)
		w.Archives[i], w.Next = added, w.Next+1
		return ok
	}
	return false
}

// namedSlowly returns the index of the first certificate with the Serial of the one that is the second piece of an item; -1 if there is none.
func namedSlowly(w *impl.World, id int) int {
	i, k := whereSlowly(*w, id)
	if i < 0 || len(w.Archives[i].Items[k].Strand.Pieces) < 2 {
		return -1
	}
	p := w.Archives[i].Items[k].Strand.Pieces[1]
	if len(p.Ints) != 7 || p.Ints[0] != 101 || p.Ints[6] != p.Key {
		return -1
	}
	return slices.IndexFunc(w.Certs, func(c impl.Cert) bool { return c.Serial == p.Ints[1] })
}

// tellSlowly adds an answer about the certificate k to an item.
func tellSlowly(w *impl.World, id int, k int, asOf int, ended int) bool {
	c := w.Certs[k]
	issuer, _ := keySlowly(w.Frame.Keys, c.Issuer)
	x := statuses.markedBy(issuer, status(c.Serial, asOf, ended, c.Issuer))
	i, j := whereSlowly(*w, id)
	s := &w.Archives[i].Items[j].Strand
	s.Pieces = append(s.Pieces, impl.StatusPiece(x))
	return impl.IsStatus(x) && isStrandSlowly(*s)
}

func answerSlowly(w *impl.World, id int) bool {
	k := namedSlowly(w, id)
	if k < 0 || k >= len(w.Ended) || !isBornSlowly(w.Frame, w.Certs[k].Issuer) {
		return false
	}
	ended := -1
	if w.Ended[k] <= w.Frame.Now+1 {
		ended = w.Ended[k]
	}
	return tellSlowly(w, id, k, w.Frame.Now, ended)
}

func renewSlowly(w *impl.World, i int, method int, ids []int, lie int) bool {
	stamps := []impl.Stamp{}
	for n, id := range ids {
		a, k := authoritySlowly(w.Frame.Authorities, id)
		if k < 0 || k >= len(w.Seqs) || n > 0 && ids[n-1] >= id || !isBornSlowly(w.Frame, a.Key) {
			return false
		}
		time := w.Frame.Now
		if slices.Contains(w.Lying, id) {
			time = min(max(time+lie, 0), 10000)
		}
		s, ok := stampSlowly(w.Frame.Keys, w.Frame.Authorities, stamp(id, w.Seqs[k], time, archiveRootSlowly(w.Archives[i], method)))
		if !ok {
			return false
		}
		stamps = append(stamps, s)
		w.Seqs[k]++
	}
	sealed, ok := sealedSlowly(w.Archives[i], method, stamps)
	w.Archives[i] = sealed
	return ok && len(ids) > 0
}

// falseSlowly tells by the definition alone what FalseAuthorities returns.
func falseSlowly(w impl.World) []int {
	ids := []int{}
	for _, a := range w.Frame.Authorities {
		if slices.Contains(w.Lying, a.Id) || isStolenSlowly(w.Frame, a.Key) {
			ids = append(ids, a.Id)
		}
	}
	return ids
}

func backdateSlowly(w *impl.World, id int, method int, time int) bool {
	i, k := whereSlowly(*w, id)
	if i < 0 {
		return false
	}
	x := &w.Archives[i].Items[k]
	r := impl.Renewal{Count: len(x.Strand.Pieces), Method: method, Root: nextLeafSlowly(method, *x)}
	for _, id := range falseSlowly(*w) {
		s, ok := stampSlowly(w.Frame.Keys, w.Frame.Authorities, stamp(id, 0, time, r.Root))
		if !ok {
			return false
		}
		r.Stamps = append(r.Stamps, s)
	}
	x.Strand.Chain = append(x.Strand.Chain, r)
	return len(r.Stamps) > 0 && isStrandSlowly(x.Strand)
}

// historian makes events that often succeed, always the same ones for one seed.
type historian struct {
	*rand.Rand
}

func newHistorian(seed uint64) historian {
	return historian{rand.New(rand.NewPCG(seed, 7))}
}

// from returns a number from low to high.
func (h historian) from(low int, high int) int {
	return low + h.IntN(high-low+1)
}

// oneOf returns one of the numbers.
func (h historian) oneOf(numbers ...int) int {
	return numbers[h.IntN(len(numbers))]
}

// some returns a part of the numbers.
func (h historian) some(numbers ...int) []int {
	return slices.DeleteFunc(slices.Clone(numbers), func(int) bool { return h.IntN(3) == 0 })
}

// next returns what may happen next in w: anything, or only what is honest.
func (h historian) next(w impl.World, isHonest bool) impl.Event {
	kinds := []int{1, 1, 1, 2, 2, 3, 3, 4, 5, 5, 5, 5, 6, 6, 7}
	if !isHonest {
		kinds = append(kinds, 8, 8, 8, 9, 9, 9, 10, 10, 0)
	}
	e := impl.Event{Kind: h.oneOf(kinds...)}
	id := h.from(0, min(max(w.Next, 0), 1000))
	switch e.Kind {
	case 1:
		e.A = h.oneOf(0, 1, 2, 5, 9, 14, 30)
	case 2, 8:
		e.A, e.B, e.C, e.D = h.from(-1, 2), h.oneOf(11, 11, 12, 12, 13, 13, 21), h.oneOf(0, 0, 0, 50, 100), w.Frame.Now+h.oneOf(0, 10, 40, 200)
		e.Doc = pages(h.from(0, 9))
	case 4:
		e.A = h.from(-1, 12)
	case 5:
		// Mostly those that can stamp by now, sometimes others.
		e.A, e.B, e.Ids = h.from(0, 1), h.oneOf(0, -3, -20, -200, 5, 70, 10001), h.some([]int{1, 2, 3, 4}[:min(max(1+w.Frame.Now/20, 1), 4)]...)
		if h.IntN(9) == 0 {
			e.Ids = h.some(4, 2, 1, 9)
		}
	case 6:
		e.A, e.B, e.C = h.from(0, 1), h.from(0, 1), id
	case 7:
		e.A = h.from(-1, 2)
	case 9, 10:
		// Mostly an item that was forged, so that more attacks succeed.
		e.A, e.B = h.oneOf(append(slices.Clone(w.Forged), id)...), h.oneOf(0, 1, 22, 45, w.Frame.Now, w.Frame.Now+1, 10001)
	default:
		e.A = id
	}
	return e
}

// disturbed returns a copy of w in which about one of n numbers, texts and lists is another, so that it is hardly ever valid.
func (h historian) disturbed(w impl.World, n int) impl.World {
	w = clone(w)
	h.disturb(reflect.ValueOf(&w).Elem(), n)
	return w
}

func (h historian) disturb(v reflect.Value, n int) {
	isOdd := h.IntN(n) == 0
	switch v.Kind() {
	case reflect.Struct:
		for i := range v.NumField() {
			h.disturb(v.Field(i), n)
		}
	case reflect.Slice:
		for i := range v.Len() {
			h.disturb(v.Index(i), n)
		}
		if isOdd && v.Len() > 0 {
			h.disturbList(v)
		}
	case reflect.Int:
		if isOdd {
			v.SetInt(int64(h.oneOf(int(v.Int())+1, int(v.Int())-1, 0, 1, 2, 3, -1, 11, 31, 52, 99, 100, 999, 1000, 10000, 10001, math.MinInt, math.MaxInt)))
		}
	case reflect.String:
		if isOdd {
			v.SetString(v.String() + fortyBytes)
		}
	}
}

// disturbList shortens a list, repeats an element behind it, exchanges two of them, or empties it.
func (h historian) disturbList(l reflect.Value) {
	n := l.Len()
	switch h.IntN(4) {
	case 0:
		l.Set(l.Slice(0, h.IntN(n)))
	case 1:
		l.Set(reflect.Append(l, copyDeep(l.Index(h.IntN(n)), func(v reflect.Value) (int, int) { return v.Len(), 0 })))
	case 2:
		reflect.Swapper(l.Interface())(h.IntN(n), h.IntN(n))
	case 3:
		l.SetZero()
	}
}
