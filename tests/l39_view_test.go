package tests

import (
	"fmt"
	"math"
	"strings"
	"testing"

	"loop.example/g00597/impl"
)

// formatSlowly tells by the definition alone what FormatVerdict returns.
func formatSlowly(v impl.Verdict) string {
	if v.Code < 1 || v.Code > 3 || v.Reason < 0 || v.Reason > 9 {
		return ""
	}
	text := verdictNames[v.Code-1] + " " + reasonNames[v.Reason]
	if v.Span != (impl.Span{}) {
		text += fmt.Sprintf(" %d-%d", v.Span.From, v.Span.To)
	}
	return text
}

// formatItemSlowly tells by the definition alone what FormatItem returns.
func formatItemSlowly(f impl.Frame, x impl.Item) string {
	return fmt.Sprintf("#%d k%d %d/%d %s", x.Id, x.Sig.Key, len(x.Strand.Pieces), len(x.Strand.Chain), formatSlowly(judgedItemSlowly(f, x)))
}

// formatArchiveSlowly tells by the definition alone what FormatArchive returns.
func formatArchiveSlowly(f impl.Frame, a impl.Archive) string {
	if len(a.Items) == 0 {
		return "-"
	}
	texts := []string{}
	for _, x := range a.Items {
		texts = append(texts, formatItemSlowly(f, x))
	}
	return strings.Join(texts, "; ")
}

// formatWorldSlowly tells by the definition alone what FormatWorld returns.
func formatWorldSlowly(w impl.World) string {
	sizes := []string{}
	for _, a := range w.Archives {
		sizes = append(sizes, fmt.Sprint(len(a.Items)))
	}
	counts := [4]int{}
	ids, verdicts := verdictsSlowly(w)
	for _, id := range ids {
		counts[verdicts[id].Code]++
	}
	return fmt.Sprintf("%d %s %d/%d/%d %d", w.Frame.Now, strings.Join(sizes, "+"), counts[1], counts[2], counts[3], len(w.Forged))
}

func checkText(t *testing.T, what string, got string, want string) {
	t.Helper()
	if got != want {
		t.Errorf("%s = %q, want %q", what, got, want)
	}
}

func TestFormatItem(t *testing.T) {
	renewals := []renewed{renewAt(3, 2, 28, 1, 2, 3), renewAt(3, 2, 45, 2, 3)}
	f := centuryFrame(90, 0)
	checkText(t, "FormatItem", impl.FormatItem(f, itemWith(7, 50, renewals...)), "#7 k11 3/2 valid none 5-28")
	checkText(t, "FormatItem without renewals", impl.FormatItem(f, itemWith(7, 50)), "#7 k11 3/0 open broken")
	checkText(t, "FormatItem of another time", impl.FormatItem(centuryFrame(29, 0), itemWith(8, 50, renewals[0])), "#8 k11 3/1 valid none 5-28")
	// The signature is not that of the strand, is not valid, or is not of the document; a frame that is not valid; nothing.
	x := itemWith(7, 50, renewals...)
	x.Sig.Mark++
	checkText(t, "FormatItem with another mark", impl.FormatItem(f, x), "#7 k11 3/2 invalid mark")
	x.Sig = signature(-3, 5, 2, 7, 1, 0, 0, 0)
	checkText(t, "FormatItem with another signature", impl.FormatItem(f, x), "#7 k-3 3/2 invalid form")
	checkText(t, "FormatItem in no frame", impl.FormatItem(centuryFrame(-1, 0), itemWith(7, 50)), "#7 k11 3/0 open form")
	checkText(t, "FormatItem of nothing", impl.FormatItem(f, impl.Item{}), "#0 k0 0/0 invalid form")
	odd := itemWith(7, 50)
	odd.Id, odd.Strand = math.MinInt, impl.Strand{}
	checkText(t, "FormatItem of an odd Id", impl.FormatItem(f, odd), "#-9223372036854775808 k11 0/0 open broken")
	for _, x := range append(badItems(), itemWith(7, 50, renewals[1])) {
		for _, now := range []int{4, 29, 49, 90} {
			f := centuryFrame(now, 0)
			checkText(t, "FormatItem", impl.FormatItem(f, x), formatItemSlowly(f, x))
		}
	}
}

func TestFormatArchive(t *testing.T) {
	f := centuryFrame(90, 0)
	checkText(t, "FormatArchive of nothing", impl.FormatArchive(f, impl.Archive{Id: 3}), "-")
	checkText(t, "FormatArchive of nothing", impl.FormatArchive(f, impl.Archive{Items: []impl.Item{}}), "-")
	checkText(t, "FormatArchive of one", impl.FormatArchive(f, archiveOf(3, 7)), "#7 k11 3/0 open broken")
	checkText(t, "FormatArchive of several", impl.FormatArchive(f, archiveOf(3, 2, 5, 9)), "#2 k11 3/0 open broken; #5 k11 3/2 valid none 5-29; #9 k11 3/0 open broken")
	for _, a := range someArchives() {
		for _, now := range []int{4, 29, 90, 120} {
			f := centuryFrame(now, 0)
			checkText(t, "FormatArchive", impl.FormatArchive(f, a), formatArchiveSlowly(f, a))
		}
	}
	w := judgedWorld()
	checkText(t, "FormatArchive", impl.FormatArchive(w.Frame, w.Archives[0]), "#1 k11 3/1 valid none 0-26; #2 k12 2/1 open time 20-26")
	checkText(t, "FormatArchive", impl.FormatArchive(w.Frame, w.Archives[1]), "#3 k11 2/1 invalid mark; #4 k11 3/1 valid none 0-26")
}

func TestFormatRedacted(t *testing.T) {
	d := document(7, []string{"a", "", "[x]", "* *", " ", "]["}, 1, 2, 3, 4, 5, 6)
	for want, hide := range map[string][]int{
		"7 [a] [] [[x]] [* *] [ ] [][]": nil, "7 * * * * * *": {0, 1, 2, 3, 4, 5}, "7 * [] [[x]] [* *] [ ] [][]": {0}, "7 [a] * [[x]] [* *] * [][]": {1, 4}, "7 [a] [] * * [ ] *": {2, 3, 5},
	} {
		checkText(t, "FormatRedacted", impl.FormatRedacted(redacted([]int{1, 2}, d, hide...)), want)
		checkText(t, "FormatRedacted without methods", impl.FormatRedacted(redacted(nil, d, hide...)), want)
	}
	cases := []struct {
		r    impl.Redacted
		want string
	}{
		{impl.Redacted{}, "0"}, {impl.Redacted{Title: 5}, "5"}, {impl.Redacted{Title: -5}, "-5"}, {impl.Redacted{Title: math.MaxInt}, "9223372036854775807"}, {impl.Redacted{Title: 5, Parts: []string{"a", "b"}}, "5"},
		// Shown is longer, and shorter.
		{impl.Redacted{Shown: []bool{true, false}}, "0 [] *"}, {impl.Redacted{Shown: []bool{true, true, true, false}, Parts: []string{"a"}}, "0 [a] [] [] *"}, {impl.Redacted{Shown: []bool{false, true}, Parts: []string{"a", "b", "c"}}, "0 * [b]"}, {impl.Redacted{Shown: []bool{true}, Parts: []string{"a", "b"}}, "0 [a]"},
		// What is hidden is not told, even if it is there.
		{impl.Redacted{Title: 1, Shown: []bool{false}, Parts: []string{"secret"}, Salts: []int{5}}, "1 *"}, {impl.Redacted{Title: 1, Shown: []bool{true}, Parts: []string{binary}}, "1 [" + binary + "]"},
	}
	for _, c := range cases {
		checkText(t, "FormatRedacted", impl.FormatRedacted(c.r), c.want)
	}
}

func TestFormatWorld(t *testing.T) {
	checkText(t, "FormatWorld of nothing", impl.FormatWorld(impl.World{}), "0  0/0/0 0")
	checkText(t, "FormatWorld of a new world", impl.FormatWorld(impl.NewWorld(0)), "0 0+0 0/0/0 0")
	checkText(t, "FormatWorld", impl.FormatWorld(judgedWorld()), "26 2+2 2/1/1 0")
	checkText(t, "FormatWorld of a busy world", impl.FormatWorld(busyWorld()), "52 1+2 0/0/3 1")
	checkText(t, "FormatWorld of one archive", impl.FormatWorld(impl.World{Frame: centuryFrame(-1, 0), Archives: []impl.Archive{{Id: 9}}, Forged: []int{7, 7, -2}}), "-1 0 0/0/0 3")
	// Forged items that were forgotten are counted as well.
	forgotten := withWorld(judgedWorld(), func(w *impl.World) {
		w.Forged, w.Archives = []int{1, 7, 9}, append(w.Archives[1:], impl.Archive{}, archiveOf(2, 7))
	})
	checkText(t, "FormatWorld", impl.FormatWorld(forgotten), "26 2+0+1 1/1/1 3")
	for seed := range uint64(12) {
		w := runSlowly(impl.NewWorld(int(seed%2)), historyOf(900+seed, impl.NewWorld(int(seed%2)), 40, seed%3 == 0))
		checkText(t, "FormatWorld", impl.FormatWorld(w), formatWorldSlowly(w))
		for _, a := range w.Archives {
			checkText(t, "FormatArchive", impl.FormatArchive(w.Frame, a), formatArchiveSlowly(w.Frame, a))
		}
	}
}

func TestFormatStamp(t *testing.T) {
	for want, s := range map[string]impl.Stamp{
		"a1n2t3": stamp(1, 2, 3, 4), "a0n0t0": {}, "a-1n-2t-3": stamp(-1, -2, -3, -4), "a99n0t10000": changedStamp(stamp(99, 0, 10000, 7)),
		"a-9223372036854775808n9223372036854775807t-9223372036854775808": stamp(math.MinInt, math.MaxInt, math.MinInt, 4),
	} {
		checkText(t, "FormatStamp", impl.FormatStamp(s), want)
	}
}

func TestViewsLeaveArgumentsAlone(t *testing.T) {
	for _, w := range []impl.World{{}, busyWorld(), judgedWorld()} {
		checkMemory(t, "FormatWorld", w, func(w impl.World) string {
			text := impl.FormatWorld(w)
			for _, a := range w.Archives {
				text += impl.FormatArchive(w.Frame, a)
				for _, x := range a.Items {
					text += impl.FormatItem(w.Frame, x)
				}
			}
			return text
		})
	}
	checkMemory(t, "FormatRedacted", redacted([]int{1, 2}, threeParts(), 1), func(r impl.Redacted) string { return impl.FormatRedacted(r) })
}
