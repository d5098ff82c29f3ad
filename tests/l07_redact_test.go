package tests

import (
	"math"
	"slices"
	"testing"

	"loop.example/g00597/impl"
)

// manyMethods are lists with no method, one, several, one that is there twice, and ones that no valid method has.
var manyMethods = [][]int{nil, {}, {1}, {1, 4}, {4, 1}, {3, 3}, {2, 5, 2}, {0, 99}, {-1, 100, math.MaxInt, math.MinInt}, {1, 2, 3, 4, 5, 6, 7, 8, 9, 10, 11, 12}}

// redactSlowly tells by the definition alone what RedactDocument returns.
func redactSlowly(methods []int, d impl.Document, hide []int) impl.Redacted {
	n := len(d.Parts)
	r := impl.Redacted{
		Title: d.Title, Methods: slices.Clone(methods),
		Shown: make([]bool, n), Parts: make([]string, n), Salts: make([]int, n), Digests: make([][]int, n),
	}
	for i := range d.Parts {
		r.Shown[i] = !slices.Contains(hide, i)
		if r.Shown[i] {
			r.Parts[i], r.Salts[i] = d.Parts[i], d.Salts[i]
			continue
		}
		for _, m := range methods {
			r.Digests[i] = append(r.Digests[i], partDigestSlowly(m, d.Parts[i], d.Salts[i]))
		}
	}
	return r
}

// sameRedacted compares without the program's help.
func sameRedacted(a impl.Redacted, b impl.Redacted) bool {
	return a.Title == b.Title && slices.Equal(a.Methods, b.Methods) && slices.Equal(a.Shown, b.Shown) &&
		slices.Equal(a.Parts, b.Parts) && slices.Equal(a.Salts, b.Salts) && slices.EqualFunc(a.Digests, b.Digests, slices.Equal[[]int])
}

func copyRedacted(r impl.Redacted) impl.Redacted {
	c := impl.Redacted{
		Title: r.Title, Methods: slices.Clone(r.Methods),
		Shown: slices.Clone(r.Shown), Parts: slices.Clone(r.Parts), Salts: slices.Clone(r.Salts), Digests: slices.Clone(r.Digests),
	}
	for i := range c.Digests {
		c.Digests[i] = slices.Clone(c.Digests[i])
	}
	return c
}

// subsets returns all lists of different indices below n, in order.
func subsets(n int) [][]int {
	all := [][]int{}
	for bits := range 1 << n {
		list := []int{}
		for i := range n {
			if bits>>i&1 == 1 {
				list = append(list, i)
			}
		}
		all = append(all, list)
	}
	return all
}

func redacted(methods []int, d impl.Document, hide ...int) impl.Redacted {
	r, _ := impl.RedactDocument(methods, d, hide)
	return r
}

func threeParts() impl.Document {
	return document(7, []string{"a", "b", "c"}, 5, 6, 8)
}

func checkRedactDocument(t *testing.T, methods []int, d impl.Document, hide []int, want impl.Redacted) {
	t.Helper()
	if got, ok := impl.RedactDocument(methods, d, hide); !ok || !sameRedacted(got, want) {
		t.Errorf("RedactDocument(%v, %v, %v) = %v, %t, want %v", methods, d, hide, got, ok, want)
	}
}

func TestRedactDocument(t *testing.T) {
	d := threeParts()
	middle := impl.Redacted{
		Title: 7, Methods: []int{1, 4}, Shown: []bool{true, false, true}, Parts: []string{"a", "", "c"}, Salts: []int{5, 0, 8},
		Digests: [][]int{nil, {partDigestSlowly(1, "b", 6), partDigestSlowly(4, "b", 6)}, nil},
	}
	// Indices that are there twice, negative or too large change nothing.
	for _, hide := range [][]int{{1}, {1, 1}, {1, 9, -1}, {3, 1, 6, 1, math.MinInt}, {math.MaxInt, -2, 1}, {1 << 32, 1, 1<<32 + 2}} {
		checkRedactDocument(t, []int{1, 4}, d, hide, middle)
	}
	for _, hide := range [][]int{nil, {}, {3}, {-1}, {-3, 3, 100}, {math.MinInt, math.MaxInt}} {
		checkRedactDocument(t, []int{1, 4}, d, hide, impl.Redacted{
			Title: 7, Methods: []int{1, 4}, Shown: []bool{true, true, true}, Parts: d.Parts, Salts: d.Salts, Digests: make([][]int, 3),
		})
	}
	for _, hide := range [][]int{{0, 1, 2}, {2, 1, 0}, {2, 0, 1, 0, 3}} {
		checkRedactDocument(t, nil, d, hide, impl.Redacted{
			Title: 7, Shown: make([]bool, 3), Parts: make([]string, 3), Salts: make([]int, 3), Digests: make([][]int, 3),
		})
	}
}

func TestRedactDocumentThatIsNotValid(t *testing.T) {
	for _, d := range badDocuments {
		for _, hide := range [][]int{nil, {0}, {0, 1, 2, 3, 4, 5, 6}} {
			if r, ok := impl.RedactDocument([]int{1}, d, hide); ok || !sameRedacted(r, impl.Redacted{}) {
				t.Errorf("RedactDocument([1], %v, %v) = %v, %t", d, hide, r, ok)
			}
		}
	}
}

// checkHiding checks that what is left of d without the parts of hide has every digest of d that can be asked for.
func checkHiding(t *testing.T, methods []int, d impl.Document, hide []int) {
	t.Helper()
	checkRedactDocument(t, methods, d, hide, redactSlowly(methods, d, hide))
	r := redacted(methods, d, hide...)
	if !impl.IsRedacted(r) || !impl.IsRedactionOf(r, d) || impl.CountShown(r) != len(d.Parts)-len(hide) {
		t.Errorf("%v is not %v without %v", r, d, hide)
	}
	for _, m := range slices.Concat(someMethodIds, methods) {
		want := docDigestSlowly(m, d)
		if len(hide) > 0 && !slices.Contains(methods, m) {
			want = -1
		}
		if got := impl.RedactedDigest(m, r); got != want {
			t.Errorf("RedactedDigest(%d, %v) = %d, want %d", m, r, got, want)
		}
	}
}

func TestHidingChangesNoDigest(t *testing.T) {
	for _, d := range someDocuments {
		for _, hide := range subsets(len(d.Parts)) {
			for _, methods := range manyMethods {
				checkHiding(t, methods, d, hide)
			}
		}
	}
}

// brokenRules change a redacted document of three parts, of which the middle one is hidden, with two methods, so that it is not valid.
var brokenRules = map[string]func(r *impl.Redacted){
	"no parts":                 func(r *impl.Redacted) { *r = impl.Redacted{Title: r.Title, Methods: r.Methods} },
	"fewer Shown":              func(r *impl.Redacted) { r.Shown = r.Shown[:2] },
	"no Shown":                 func(r *impl.Redacted) { r.Shown = nil },
	"one more Shown":           func(r *impl.Redacted) { r.Shown = append(r.Shown, true) },
	"one more hidden":          func(r *impl.Redacted) { r.Shown = append(r.Shown, false) },
	"fewer Parts":              func(r *impl.Redacted) { r.Parts = r.Parts[:2] },
	"no Parts":                 func(r *impl.Redacted) { r.Parts = nil },
	"one more Part":            func(r *impl.Redacted) { r.Parts = append(r.Parts, "d") },
	"one more empty Part":      func(r *impl.Redacted) { r.Parts = append(r.Parts, "") },
	"fewer Salts":              func(r *impl.Redacted) { r.Salts = r.Salts[:2] },
	"no Salts":                 func(r *impl.Redacted) { r.Salts = nil },
	"one more Salt":            func(r *impl.Redacted) { r.Salts = append(r.Salts, 5) },
	"one more Salt 0":          func(r *impl.Redacted) { r.Salts = append(r.Salts, 0) },
	"fewer Digests":            func(r *impl.Redacted) { r.Digests = r.Digests[:2] },
	"no Digests":               func(r *impl.Redacted) { r.Digests = nil },
	"one more Digests":         func(r *impl.Redacted) { r.Digests = append(r.Digests, []int{1, 2}) },
	"one more empty Digests":   func(r *impl.Redacted) { r.Digests = append(r.Digests, nil) },
	"shown with a digest":      func(r *impl.Redacted) { r.Digests[0] = []int{4} },
	"shown with all digests":   func(r *impl.Redacted) { r.Digests[2] = []int{4, 5} },
	"hidden with a text":       func(r *impl.Redacted) { r.Parts[1] = "b" },
	"hidden with a salt":       func(r *impl.Redacted) { r.Salts[1] = 6 },
	"hidden with a bad salt":   func(r *impl.Redacted) { r.Salts[1] = -1 },
	"hidden with few digests":  func(r *impl.Redacted) { r.Digests[1] = r.Digests[1][:1] },
	"hidden without digests":   func(r *impl.Redacted) { r.Digests[1] = nil },
	"hidden with more digests": func(r *impl.Redacted) { r.Digests[1] = append(r.Digests[1], 4) },
	"one more method":          func(r *impl.Redacted) { r.Methods = append(r.Methods, 9) },
	"the last method again":    func(r *impl.Redacted) { r.Methods = append(r.Methods, 4) },
	"one method fewer":         func(r *impl.Redacted) { r.Methods = r.Methods[:1] },
	"no methods":               func(r *impl.Redacted) { r.Methods = nil },
	"hidden but not empty":     func(r *impl.Redacted) { r.Shown[0] = false },
	"hidden, only digests":     func(r *impl.Redacted) { r.Shown[0], r.Digests[0] = false, []int{4, 5} },
	"shown but empty":          func(r *impl.Redacted) { r.Shown[1] = true },
	"shown without a salt":     func(r *impl.Redacted) { r.Shown[1], r.Digests[1] = true, nil },
	"salt 0":                   func(r *impl.Redacted) { r.Salts[0] = 0 },
	"salt -1":                  func(r *impl.Redacted) { r.Salts[2] = -1 },
	"salt too large":           func(r *impl.Redacted) { r.Salts[2] = impl.MaxValue + 1 },
	"part too long":            func(r *impl.Redacted) { r.Parts[2] = fortyBytes + "0" },
	"title -1":                 func(r *impl.Redacted) { r.Title = -1 },
	"title 1000":               func(r *impl.Redacted) { r.Title = 1000 },
	"too many parts": func(r *impl.Redacted) {
		for range 4 {
			r.Shown, r.Parts, r.Salts, r.Digests = append(r.Shown, true), append(r.Parts, "d"), append(r.Salts, 5), append(r.Digests, nil)
		}
	},
	"too many hidden parts": func(r *impl.Redacted) {
		for range 4 {
			r.Shown, r.Parts, r.Salts, r.Digests = append(r.Shown, false), append(r.Parts, ""), append(r.Salts, 0), append(r.Digests, []int{4, 5})
		}
	},
}

func checkNotRedacted(t *testing.T, name string, r impl.Redacted, d impl.Document) {
	t.Helper()
	if impl.IsRedacted(r) || impl.IsRedactionOf(r, d) {
		t.Errorf("%s: %v is valid", name, r)
	}
	for _, m := range slices.Concat(r.Methods, []int{0, 1, 4, -1}) {
		if got := impl.RedactedDigest(m, r); got != -1 {
			t.Errorf("%s: RedactedDigest(%d, %v) = %d, want -1", name, m, r, got)
		}
	}
}

func TestIsRedactedByBrokenRules(t *testing.T) {
	d := threeParts()
	if r := redacted([]int{1, 4}, d, 1); !impl.IsRedacted(r) {
		t.Fatalf("IsRedacted(%v) = false", r)
	}
	for name, breakRule := range brokenRules {
		r := redacted([]int{1, 4}, d, 1)
		breakRule(&r)
		checkNotRedacted(t, name, r, d)
	}
	checkNotRedacted(t, "nothing", impl.Redacted{}, d)
	checkNotRedacted(t, "nothing", impl.Redacted{}, impl.Document{})
}

// Each hidden and each shown part is checked, in every mixture of them.
func TestIsRedactedOfEachPart(t *testing.T) {
	d := document(1, []string{"", "a", "", "b", binary, fortyBytes}, 1, 2, 3, 4, 5, impl.MaxValue)
	for _, hide := range subsets(len(d.Parts)) {
		whole := redacted([]int{1, 4}, d, hide...)
		for i, shown := range whole.Shown {
			changes := []func(r *impl.Redacted){
				func(r *impl.Redacted) { r.Parts[i] = fortyBytes + "\x00" },
				func(r *impl.Redacted) { r.Digests[i] = append(r.Digests[i], 4) },
				func(r *impl.Redacted) { r.Shown[i] = !r.Shown[i] },
			}
			if shown {
				changes = append(changes, func(r *impl.Redacted) { r.Salts[i] = 0 })
			} else {
				changes = append(changes,
					func(r *impl.Redacted) { r.Parts[i] = "a" },
					func(r *impl.Redacted) { r.Salts[i] = 5 },
					func(r *impl.Redacted) { r.Digests[i] = r.Digests[i][:1] },
				)
			}
			for _, change := range changes {
				r := copyRedacted(whole)
				change(&r)
				checkNotRedacted(t, "a changed part", r, d)
			}
		}
	}
}

func TestIsRedactedByTitle(t *testing.T) {
	for _, hide := range subsets(3) {
		for _, methods := range [][]int{nil, {1}} {
			r := redacted(methods, threeParts(), hide...)
			for _, title := range []int{0, 1, 998, 999} {
				if r.Title = title; !impl.IsRedacted(r) {
					t.Errorf("IsRedacted(%v) = false", r)
				}
			}
			for _, title := range []int{-1, 1000, math.MinInt, math.MaxInt} {
				if r.Title = title; impl.IsRedacted(r) {
					t.Errorf("IsRedacted(%v) = true", r)
				}
			}
		}
	}
}

// The digests of hidden parts can be any numbers, also -1, and are taken as they are.
func TestDigestsOfHiddenPartsAreTaken(t *testing.T) {
	for _, digest := range []int{-1, 0, 5, impl.Modulus, math.MaxInt, math.MinInt} {
		r := redacted([]int{4, 1}, threeParts(), 1)
		r.Digests[1] = []int{77, digest}
		want := hashSlowly([]int{7, 1, 7, partDigestSlowly(1, "a", 5), digest, partDigestSlowly(1, "c", 8)})
		if got := impl.RedactedDigest(1, r); !impl.IsRedacted(r) || got != want {
			t.Errorf("RedactedDigest(1, %v) = %d, want %d", r, got, want)
		}
		if impl.IsRedactionOf(r, threeParts()) {
			t.Errorf("%v is a redaction although a digest is another", r)
		}
	}
}

func TestMethodThatIsThereTwice(t *testing.T) {
	d := threeParts()
	r := redacted([]int{3, 5, 3}, d, 0, 1, 2)
	if got := impl.RedactedDigest(3, r); got != docDigestSlowly(3, d) {
		t.Errorf("RedactedDigest(3, %v) = %d", r, got)
	}
	for i := range r.Digests {
		r.Digests[i][2] = 4
	}
	// The first one counts; the other one makes no difference to what r is, but is not what RedactDocument returns.
	if got := impl.RedactedDigest(3, r); got != docDigestSlowly(3, d) || !impl.IsRedacted(r) || impl.IsRedactionOf(r, d) {
		t.Errorf("RedactedDigest(3, %v) = %d, want %d", r, got, docDigestSlowly(3, d))
	}
	for i := range r.Digests {
		r.Digests[i][0] = 6
	}
	if got, want := impl.RedactedDigest(3, r), hashSlowly([]int{7, 3, 7, 6, 6, 6}); got != want {
		t.Errorf("RedactedDigest(3, %v) = %d, want %d", r, got, want)
	}
	if got := impl.RedactedDigest(5, r); got != docDigestSlowly(5, d) {
		t.Errorf("RedactedDigest(5, %v) = %d", r, got)
	}
}

func TestIsRedactionOfOtherDocuments(t *testing.T) {
	for i, d := range someDocuments {
		for _, hide := range subsets(len(d.Parts)) {
			for _, methods := range [][]int{{1}, {2, 5}} {
				r := redacted(methods, d, hide...)
				for k, other := range someDocuments {
					if k != i && impl.IsRedactionOf(r, other) {
						t.Errorf("%v is a redaction of %v", r, other)
					}
				}
				for _, bad := range badDocuments {
					if impl.IsRedactionOf(r, bad) {
						t.Errorf("%v is a redaction of %v", r, bad)
					}
				}
			}
		}
	}
	d := threeParts()
	for i := range d.Parts {
		other, _ := impl.ReplacePart(d, i, "z")
		for _, hide := range subsets(3) {
			// Without methods nothing is told of a hidden part.
			r := redacted(nil, d, hide...)
			if got := impl.IsRedactionOf(r, other); got != slices.Contains(hide, i) {
				t.Errorf("IsRedactionOf(%v, %v) = %t", r, other, got)
			}
		}
	}
}

// Every field of a redacted document counts, but not whether an empty list is nil.
func TestIsRedactionOfEachField(t *testing.T) {
	d := threeParts()
	changes := map[string]func(r *impl.Redacted){
		"title":          func(r *impl.Redacted) { r.Title = 8 },
		"another method": func(r *impl.Redacted) { r.Methods[0] = 2 },
		"order":          func(r *impl.Redacted) { slices.Reverse(r.Methods) },
		"text":           func(r *impl.Redacted) { r.Parts[0] = "z" },
		"empty text":     func(r *impl.Redacted) { r.Parts[2] = "" },
		"salt":           func(r *impl.Redacted) { r.Salts[2] = 9 },
		"digest":         func(r *impl.Redacted) { r.Digests[1][0]++ },
		"last digest":    func(r *impl.Redacted) { r.Digests[1][1]-- },
		"all hidden":     func(r *impl.Redacted) { r.Shown = make([]bool, 3) },
		"all shown":      func(r *impl.Redacted) { r.Shown = []bool{true, true, true} },
		"another hidden": func(r *impl.Redacted) { slices.Reverse(r.Shown[1:]) },
		"a hidden part that is none": func(r *impl.Redacted) {
			r.Shown, r.Parts, r.Salts, r.Digests = append(r.Shown, false), append(r.Parts, ""), append(r.Salts, 0), append(r.Digests, []int{4, 5})
		},
	}
	for name, change := range changes {
		r := redacted([]int{1, 4}, d, 1)
		change(&r)
		if impl.IsRedactionOf(r, d) {
			t.Errorf("%s: %v is a redaction of %v", name, r, d)
		}
	}
	for _, methods := range [][]int{nil, {}} {
		r := redacted(methods, d, 1)
		for _, empty := range [][]int{nil, {}} {
			r.Methods, r.Digests = empty, [][]int{empty, empty, empty}
			if !impl.IsRedacted(r) || !impl.IsRedactionOf(r, d) {
				t.Errorf("%v is not a redaction", r)
			}
		}
	}
}

func TestCountShown(t *testing.T) {
	cases := []struct {
		shown []bool
		want  int
	}{
		{nil, 0}, {[]bool{}, 0}, {[]bool{true}, 1}, {[]bool{false}, 0}, {[]bool{true, false, true}, 2},
		{[]bool{false, false, false}, 0}, {slices.Repeat([]bool{true, true, false}, 100), 200},
	}
	for _, c := range cases {
		// The other lists have other lengths.
		for _, r := range []impl.Redacted{{Shown: c.shown}, {Shown: c.shown, Parts: []string{"a"}, Salts: []int{5}, Title: -1}} {
			if got := impl.CountShown(r); got != c.want {
				t.Errorf("CountShown(%v) = %d, want %d", r, got, c.want)
			}
		}
	}
}

// Lists of every length from 0 to 8, in every mixture, cause no panic, and are valid only if their lengths agree.
func TestRedactedListsOfAllLengths(t *testing.T) {
	for _, n := range []int{0, 1, 5, 6, 7, 8} {
		for _, shown := range []bool{false, true} {
			for wrong := range 4 {
				for _, m := range []int{0, 1, 5, 6, 7, 8} {
					lengths := []int{n, n, n, n}
					lengths[wrong] = m
					r := impl.Redacted{
						Shown: slices.Repeat([]bool{shown}, lengths[0]), Parts: make([]string, lengths[1]),
						Salts: make([]int, lengths[2]), Digests: make([][]int, lengths[3]),
					}
					if shown {
						r.Salts = slices.Repeat([]int{5}, lengths[2])
					}
					want := m == n && n >= 1 && n <= 6
					if got := impl.IsRedacted(r); got != want {
						t.Errorf("IsRedacted(%v) = %t", r, got)
					}
					if got := impl.RedactedDigest(1, r); (got != -1) != (want && shown) {
						t.Errorf("RedactedDigest(1, %v) = %d", r, got)
					}
					d := impl.Document{Parts: make([]string, 5), Salts: slices.Repeat([]int{5}, 5)}
					if got := impl.IsRedactionOf(r, d); got != (want && n == 5) {
						t.Errorf("IsRedactionOf(%v, %v) = %t", r, d, got)
					}
				}
			}
		}
	}
}

func TestRedactDocumentLeavesArgumentsAlone(t *testing.T) {
	for _, like := range slices.Concat(someDocuments, badDocuments[:8]) {
		for _, hidden := range [][]int{{}, {0}, {1, 2}, {0, 1, 2, 3, 4, 5}} {
			for _, list := range manyMethods {
				methods, d, hide := spareInts(list), spareDocument(like), spareInts(hidden)
				redact := func() impl.Redacted {
					r, _ := impl.RedactDocument(methods, d, hide)
					return r
				}
				intLists := []func() []int{
					func() []int { return redact().Methods },
					func() []int { return redact().Salts },
					func() []int { return slices.Concat(redact().Digests...) },
				}
				for i := range redact().Digests {
					intLists = append(intLists, func() []int { return redact().Digests[i] })
				}
				for _, call := range intLists {
					// The lists are asked for one by one, so that each is overwritten up to its capacity.
					checkApart(t, "RedactDocument", methods, -8, -9, call)
					checkApart(t, "RedactDocument", d.Salts, -8, -9, call)
					checkApart(t, "RedactDocument", hide, -8, -9, call)
				}
				checkApart(t, "RedactDocument", d.Parts, "argument", "result", func() []string { return redact().Parts })
				checkApart(t, "RedactDocument", hide, -8, true, func() []bool { return redact().Shown })
			}
		}
	}
}

// No two lists of one result share memory, not even behind their ends.
func TestListsOfRedactedAreApart(t *testing.T) {
	for _, d := range someDocuments {
		for _, hide := range subsets(len(d.Parts)) {
			for _, methods := range manyMethods {
				r := redacted(spareInts(methods), spareDocument(d), hide...)
				lists := append([][]int{r.Methods, r.Salts}, r.Digests...)
				for i, list := range lists {
					fill(list, i)
				}
				for i, list := range lists {
					if slices.ContainsFunc(list[:cap(list)], func(n int) bool { return n != i }) {
						t.Fatalf("two lists of RedactDocument(%v, %v, %v) share memory", methods, d, hide)
					}
				}
			}
		}
	}
}

func TestRedactedLeaveArgumentsAlone(t *testing.T) {
	check := func(r impl.Redacted, d impl.Document) {
		t.Helper()
		spared := impl.Redacted{
			Title: r.Title, Methods: spareInts(r.Methods),
			Shown: spareOf(r.Shown, true), Parts: spareOf(r.Parts, "spare"), Salts: spareInts(r.Salts), Digests: spareOf(r.Digests, []int{-77}),
		}
		for i := range spared.Digests {
			spared.Digests[i] = spareInts(spared.Digests[i])
		}
		// Both see the same memory, this one also what is behind the ends.
		behind := func() impl.Redacted {
			w := impl.Redacted{
				Title: r.Title, Methods: spared.Methods[:cap(spared.Methods)],
				Shown: spared.Shown[:cap(spared.Shown)], Parts: spared.Parts[:cap(spared.Parts)],
				Salts: spared.Salts[:cap(spared.Salts)], Digests: slices.Clone(spared.Digests[:cap(spared.Digests)]),
			}
			for i := range w.Digests {
				w.Digests[i] = w.Digests[i][:cap(w.Digests[i])]
			}
			return copyRedacted(w)
		}
		before := behind()
		spareD := spareDocument(d)
		wholeD := wholeDocument(spareD)
		impl.IsRedacted(spared)
		impl.RedactedDigest(1, spared)
		impl.RedactedDigest(3, spared)
		impl.IsRedactionOf(spared, spareD)
		impl.CountShown(spared)
		if !sameRedacted(behind(), before) || !sameDocument(wholeDocument(spareD), wholeD) {
			t.Errorf("a function of redaction writes into %v or %v", r, d)
		}
	}
	for _, d := range someDocuments {
		for _, hide := range subsets(len(d.Parts)) {
			check(redacted([]int{1, 4}, d, hide...), d)
			check(redacted(nil, d, hide...), threeParts())
		}
	}
	for _, breakRule := range brokenRules {
		r := redacted([]int{1, 4}, threeParts(), 1)
		breakRule(&r)
		check(r, threeParts())
	}
}
