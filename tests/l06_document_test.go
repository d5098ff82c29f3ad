package tests

import (
	"math"
	"slices"
	"strings"
	"testing"

	"loop.example/g00597/impl"
)

var (
	fortyBytes = strings.Repeat("0123456789", 4)
	// The number of bytes counts, not that of the characters.
	fortyWide = strings.Repeat("é", 20)
	binary    = "\x00\x7f\x80\xff\xc3"
)

func document(title int, parts []string, salts ...int) impl.Document {
	return impl.Document{Title: title, Parts: parts, Salts: salts}
}

// someDocuments are valid, and no two of them are equal.
var someDocuments = []impl.Document{
	document(7, []string{"a"}, 5),
	document(7, []string{"b"}, 5),
	document(7, []string{"a"}, 6),
	document(107, []string{"a"}, 5),
	document(0, []string{""}, 1),
	document(999, []string{""}, impl.MaxValue),
	document(0, []string{"", ""}, 1, 1),
	document(7, []string{"a", ""}, 5, 1),
	document(7, []string{"", "a"}, 1, 5),
	document(7, []string{"ab", ""}, 5, 1),
	document(7, []string{"a", "b"}, 5, 1),
	document(7, []string{"b", "a"}, 5, 1),
	document(7, []string{"a", "b"}, 1, 5),
	document(7, []string{"a", "", "one"}, 5, 1, impl.Modulus),
	document(7, []string{fortyBytes, fortyWide, binary}, 2, impl.MaxValue-1, 3),
	document(1, []string{"", "a", "", fortyBytes, "", binary}, 1, 2, 3, 4, 5, impl.MaxValue),
	document(1, []string{"", "", "", "", "", ""}, 1, 2, 3, 4, 5, impl.MaxValue),
}

// badDocuments break one rule each.
var badDocuments = []impl.Document{
	{},
	document(7, nil),
	document(7, []string{}),
	document(7, []string{"1", "2", "3", "4", "5", "6", "7"}, 1, 2, 3, 4, 5, 6, 7),
	document(7, slices.Repeat([]string{""}, 7), 1, 2, 3, 4, 5, 6, 7),
	document(7, []string{fortyBytes + "0"}, 5),
	document(7, []string{fortyWide + "é"}, 5),
	document(7, []string{"", "", "", "", "", fortyBytes + "\x00"}, 1, 2, 3, 4, 5, 6),
	document(7, []string{"a", strings.Repeat("b", 1000), "c"}, 1, 2, 3),
	document(7, []string{"a"}),
	document(7, nil, 5),
	document(7, []string{"a"}, 5, 6),
	document(7, []string{"a", "b"}, 5),
	document(7, []string{"a", "b", "c"}, 5, 6, 7, 8),
	document(7, []string{"1", "2", "3", "4", "5", "6"}, 1, 2, 3, 4, 5, 6, 7),
	document(7, []string{"a"}, 0),
	document(7, []string{"a"}, -1),
	document(7, []string{"a"}, impl.MaxValue+1),
	document(7, []string{"a"}, math.MinInt),
	document(7, []string{"a"}, math.MaxInt),
	document(7, []string{"a", "b", "c"}, 0, 1, 1),
	document(7, []string{"a", "b", "c"}, 1, 0, 1),
	document(7, []string{"a", "b", "c"}, 1, 1, 0),
	document(-1, []string{"a"}, 5),
	document(1000, []string{"a"}, 5),
	document(math.MinInt, []string{"a"}, 5),
	document(math.MaxInt, []string{"a"}, 5),
}

var someMethodIds = []int{0, 1, 2, 99, 100, -1, impl.Modulus, math.MaxInt, math.MinInt}

// partDigestSlowly tells by the definition alone what PartDigest returns.
func partDigestSlowly(method int, part string, salt int) int {
	values := []int{7, method, salt}
	for i := range len(part) {
		values = append(values, int(part[i]))
	}
	return hashSlowly(values)
}

func docDigestSlowly(method int, d impl.Document) int {
	values := []int{7, method, d.Title}
	for i, part := range d.Parts {
		values = append(values, partDigestSlowly(method, part, d.Salts[i]))
	}
	return hashSlowly(values)
}

func copyOf(d impl.Document) impl.Document {
	return impl.Document{Title: d.Title, Parts: slices.Clone(d.Parts), Salts: slices.Clone(d.Salts)}
}

func spareDocument(d impl.Document) impl.Document {
	return impl.Document{Title: d.Title, Parts: spareOf(d.Parts, "spare"), Salts: spareInts(d.Salts)}
}

// sameDocument compares without the program's help.
func sameDocument(a impl.Document, b impl.Document) bool {
	return a.Title == b.Title && slices.Equal(a.Parts, b.Parts) && slices.Equal(a.Salts, b.Salts)
}

// wholeDocument returns the content of the memory of d, also what is behind the ends of its lists.
func wholeDocument(d impl.Document) impl.Document {
	return copyOf(impl.Document{Title: d.Title, Parts: d.Parts[:cap(d.Parts)], Salts: d.Salts[:cap(d.Salts)]})
}

func TestDocumentConstants(t *testing.T) {
	if impl.MaxParts != 6 || impl.MaxPart != 40 {
		t.Errorf("MaxParts = %d, MaxPart = %d", impl.MaxParts, impl.MaxPart)
	}
}

func TestIsDocument(t *testing.T) {
	for _, d := range someDocuments {
		if !impl.IsDocument(d) {
			t.Errorf("IsDocument(%q) = false", d.Parts)
		}
	}
	for _, d := range badDocuments {
		if impl.IsDocument(d) {
			t.Errorf("IsDocument(%v) = true", d)
		}
	}
}

// Each place of a document with all parts has a part that is too long, or a salt that is not valid.
func TestIsDocumentOfEachPlace(t *testing.T) {
	parts, salts := slices.Repeat([]string{fortyBytes}, impl.MaxParts), slices.Repeat([]int{impl.MaxValue}, impl.MaxParts)
	full := document(999, parts, salts...)
	for i := range impl.MaxParts {
		for _, salt := range []int{1, 2, impl.Modulus, impl.MaxValue} {
			d := copyOf(full)
			d.Salts[i] = salt
			if !impl.IsDocument(d) {
				t.Errorf("a document with the salt %d at %d is not valid", salt, i)
			}
		}
		for _, salt := range []int{0, -1, -5, impl.MaxValue + 1, math.MaxInt, math.MinInt} {
			d := copyOf(full)
			d.Salts[i] = salt
			if impl.IsDocument(d) {
				t.Errorf("a document with the salt %d at %d is valid", salt, i)
			}
		}
		d := copyOf(full)
		d.Parts[i] += "\xff"
		if impl.IsDocument(d) {
			t.Errorf("a document with a part %d that is too long is valid", i)
		}
	}
}

func TestPartDigest(t *testing.T) {
	cases := []struct {
		method int
		part   string
		salt   int
		want   int
	}{
		{2, "a", 5, 2068974641}, {2, "", 5, 1427556868}, {2, "\xff\x00", 5, 771124142}, {3, "a", 5, 1347595148},
		{2, "a", 6, 2069974644}, {0, "", 0, 1425556857}, {2, "é", 5, 711124131},
	}
	for _, c := range cases {
		if got := impl.PartDigest(c.method, c.part, c.salt); got != c.want {
			t.Errorf("PartDigest(%d, %q, %d) = %d, want %d", c.method, c.part, c.salt, got, c.want)
		}
	}
	parts := []string{"", "a", "ab", "\x00", "\x00\x00", "\x7f", "\x80", "\xff", "é", "日本", binary, fortyBytes, fortyWide, strings.Repeat("long ", 100)}
	for _, method := range someMethodIds {
		for _, salt := range []int{0, 1, 5, -1, impl.Modulus, impl.MaxValue, impl.MaxValue + 1, math.MaxInt, math.MinInt} {
			for _, part := range parts {
				want := partDigestSlowly(method, part, salt)
				if got := impl.PartDigest(method, part, salt); got != want {
					t.Errorf("PartDigest(%d, %q, %d) = %d, want %d", method, part, salt, got, want)
				}
			}
		}
	}
}

func TestDocDigest(t *testing.T) {
	salts := []int{507840472, 508840475, 509840478}
	cases := []struct {
		method int
		d      impl.Document
		want   int
	}{
		{2, document(7, []string{"a", "", "one"}, salts...), 1875253868},
		{3, document(7, []string{"a", "", "one"}, salts...), 1672607649},
		{2, document(0, []string{""}, 1), 1344047746},
		{2, document(999, slices.Repeat([]string{""}, 6), 1, 2, 3, 4, 5, impl.MaxValue), 2066157034},
	}
	for _, c := range cases {
		if got := impl.DocDigest(c.method, c.d); got != c.want {
			t.Errorf("DocDigest(%d, %v) = %d, want %d", c.method, c.d, got, c.want)
		}
	}
	for _, method := range someMethodIds {
		for _, d := range someDocuments {
			if got := impl.DocDigest(method, d); got != docDigestSlowly(method, d) {
				t.Errorf("DocDigest(%d, %v) = %d, want %d", method, d, got, docDigestSlowly(method, d))
			}
		}
		for _, d := range badDocuments {
			if got := impl.DocDigest(method, d); got != -1 {
				t.Errorf("DocDigest(%d, %v) = %d, want -1", method, d, got)
			}
		}
	}
}

func TestOtherDocumentsHaveOtherDigests(t *testing.T) {
	for _, method := range []int{0, 1, 2, 99} {
		digests := map[int]int{}
		for i, d := range someDocuments {
			digest := impl.DocDigest(method, d)
			if other, ok := digests[digest]; ok {
				t.Errorf("%v and %v have the same digest", d, someDocuments[other])
			}
			digests[digest] = i
		}
	}
}

func TestMakeDocument(t *testing.T) {
	d, ok := impl.MakeDocument(7, []string{"a", "", "one"}, 11)
	if want := document(7, []string{"a", "", "one"}, 507840472, 508840475, 509840478); !ok || !sameDocument(d, want) {
		t.Errorf("MakeDocument(7, ..., 11) = %v, %t, want %v", d, ok, want)
	}
	for _, title := range []int{0, 1, 7, 998, 999} {
		for _, seed := range []int{1, 2, 11, impl.Modulus - 2, impl.Modulus - 1} {
			for _, like := range someDocuments {
				want := impl.Document{Title: title, Parts: like.Parts}
				for i := range like.Parts {
					want.Salts = append(want.Salts, max(1, keyedHashSlowly(seed, []int{title, i})))
				}
				d, ok := impl.MakeDocument(title, like.Parts, seed)
				if !ok || !sameDocument(d, want) || !impl.IsDocument(d) {
					t.Errorf("MakeDocument(%d, %q, %d) = %v, %t, want %v", title, like.Parts, seed, d, ok, want)
				}
			}
		}
	}
}

// There is one seed from which a salt would be 0.
func TestMakeDocumentHasNoSaltZero(t *testing.T) {
	cases := []struct{ title, place, zero, one int }{
		{7, 0, 1828081513, 939345357}, {7, 1, 248011737, 1506759228}, {0, 0, 1259470130, 370733974}, {999, 5, 1800428004, 911691848},
	}
	for _, c := range cases {
		checkKeyedHash(t, c.zero, []int{c.title, c.place}, 0)
		checkKeyedHash(t, c.one, []int{c.title, c.place}, 1)
		for _, seed := range []int{c.zero, c.one} {
			d, ok := impl.MakeDocument(c.title, slices.Repeat([]string{"a"}, impl.MaxParts), seed)
			if !ok || d.Salts[c.place] != 1 {
				t.Errorf("MakeDocument(%d, ..., %d) = %v, %t, want the salt 1 at %d", c.title, seed, d, ok, c.place)
			}
		}
	}
}

func TestMakeDocumentThatIsNotValid(t *testing.T) {
	one := []string{"a"}
	cases := []struct {
		title int
		parts []string
		seed  int
	}{
		{7, nil, 11}, {7, []string{}, 11}, {7, slices.Repeat(one, 7), 11}, {7, slices.Repeat(one, 1000), 11},
		{7, []string{fortyBytes + "0"}, 11}, {7, []string{"", fortyWide + "0", ""}, 11}, {7, []string{"a", "b", fortyBytes + "\x00"}, 11},
		{-1, one, 11}, {1000, one, 11}, {math.MinInt, one, 11}, {math.MaxInt, one, 11},
		{7, one, 0}, {7, one, -1}, {7, one, impl.Modulus}, {7, one, impl.Modulus + 11}, {7, one, 11 - impl.Modulus}, {7, one, math.MinInt}, {7, one, math.MaxInt},
		{-1, nil, 0},
	}
	for _, c := range cases {
		if d, ok := impl.MakeDocument(c.title, c.parts, c.seed); ok || !sameDocument(d, impl.Document{}) {
			t.Errorf("MakeDocument(%d, %q, %d) = %v, %t", c.title, c.parts, c.seed, d, ok)
		}
	}
}

func TestEqualDocuments(t *testing.T) {
	all := slices.Concat(someDocuments, badDocuments)
	for _, a := range all {
		for _, b := range all {
			if got := impl.EqualDocuments(a, copyOf(b)); got != sameDocument(a, b) {
				t.Errorf("EqualDocuments(%v, %v) = %t", a, b, got)
			}
		}
	}
	empty := impl.Document{Parts: []string{}, Salts: []int{}}
	if !impl.EqualDocuments(impl.Document{}, empty) || !impl.EqualDocuments(empty, impl.Document{}) {
		t.Error("a nil list does not equal an empty one")
	}
	for i, d := range someDocuments {
		if !impl.EqualDocuments(d, copyOf(d)) {
			t.Errorf("%v does not equal itself", d)
		}
		for _, other := range someDocuments[:i] {
			if impl.EqualDocuments(d, other) || impl.EqualDocuments(other, d) {
				t.Errorf("%v equals %v", d, other)
			}
		}
	}
}

func checkReplacePart(t *testing.T, d impl.Document, i int, part string, want impl.Document, wantOk bool) {
	t.Helper()
	if got, ok := impl.ReplacePart(d, i, part); ok != wantOk || !sameDocument(got, want) {
		t.Errorf("ReplacePart(%v, %d, %q) = %v, %t, want %v, %t", d, i, part, got, ok, want, wantOk)
	}
}

// Another part makes another document with another digest, also where one of the parts is empty; the same part makes an equal one.
func TestReplacePart(t *testing.T) {
	for _, d := range someDocuments {
		for i := range d.Parts {
			for _, part := range []string{"", "a", "b", "\x00", "two", binary, fortyBytes, fortyWide} {
				want := copyOf(d)
				want.Parts[i] = part
				checkReplacePart(t, d, i, part, want, true)
				replaced, _ := impl.ReplacePart(d, i, part)
				same := part == d.Parts[i]
				if impl.EqualDocuments(replaced, d) != same || (impl.DocDigest(2, replaced) == impl.DocDigest(2, d)) != same {
					t.Errorf("%v with the part %q at %d is not told from what it was", d, part, i)
				}
			}
			checkReplacePart(t, d, i, fortyBytes+"0", d, false)
			checkReplacePart(t, d, i, fortyWide+"é", d, false)
			checkReplacePart(t, d, i, strings.Repeat("a", 1000), d, false)
		}
		for _, i := range []int{-1, -2, math.MinInt, len(d.Parts), len(d.Parts) + 1, impl.MaxParts, math.MaxInt} {
			checkReplacePart(t, d, i, "a", d, false)
			checkReplacePart(t, d, i, "", d, false)
		}
	}
}

func TestReplacePartOfBadDocuments(t *testing.T) {
	for _, d := range badDocuments {
		for i := -1; i <= len(d.Parts); i++ {
			changed := copyOf(d)
			if i >= 0 && i < len(d.Parts) {
				changed.Parts[i] = "x"
			}
			if impl.IsDocument(changed) {
				checkReplacePart(t, d, i, "x", changed, true)
			} else {
				checkReplacePart(t, d, i, "x", d, false)
			}
		}
	}
	// Only the part that is replaced was too long.
	long := document(7, []string{"a", fortyBytes + "0", "c"}, 1, 2, 3)
	checkReplacePart(t, long, 1, fortyBytes, document(7, []string{"a", fortyBytes, "c"}, 1, 2, 3), true)
	checkReplacePart(t, long, 1, "", document(7, []string{"a", "", "c"}, 1, 2, 3), true)
	checkReplacePart(t, long, 0, "b", long, false)
	checkReplacePart(t, long, 1, fortyBytes+"1", long, false)
	checkReplacePart(t, long, 3, "b", long, false)
	checkReplacePart(t, impl.Document{}, 0, "a", impl.Document{}, false)
}

func TestDocumentsLeaveArgumentsAlone(t *testing.T) {
	for _, like := range slices.Concat(someDocuments, badDocuments) {
		d := spareDocument(like)
		whole := wholeDocument(d)
		impl.IsDocument(d)
		impl.DocDigest(2, d)
		impl.EqualDocuments(d, d)
		if !sameDocument(wholeDocument(d), whole) {
			t.Errorf("IsDocument, DocDigest or EqualDocuments writes into %v", d)
		}
		for i := -1; i <= len(d.Parts); i++ {
			for _, part := range []string{"x", fortyBytes + "0"} {
				replaced := func() impl.Document {
					r, _ := impl.ReplacePart(d, i, part)
					return r
				}
				checkApart(t, "ReplacePart", d.Parts, "argument", "result", func() []string { return replaced().Parts })
				checkApart(t, "ReplacePart", d.Salts, -8, -9, func() []int { return replaced().Salts })
			}
		}
		for _, seed := range []int{0, 11} {
			made := func() impl.Document {
				m, _ := impl.MakeDocument(7, d.Parts, seed)
				return m
			}
			checkApart(t, "MakeDocument", d.Parts, "argument", "result", func() []string { return made().Parts })
			checkApart(t, "MakeDocument", d.Parts, "argument", -9, func() []int { return made().Salts })
		}
	}
}
