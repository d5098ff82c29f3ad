package tests

import (
	"math"
	"slices"
	"testing"

	"loop.example/g00597/impl"
)

// verdictNames and reasonNames are those of the codes from 1 on and of the reasons from 0 on.
var (
	verdictNames = []string{"valid", "invalid", "open"}
	reasonNames  = []string{"none", "form", "document", "key", "mark", "broken", "certificate", "time", "ended", "mandate"}
)

// oddNumbers are no codes and no reasons.
var oddNumbers = []int{-1, -2, -3, 10, 11, 100, 1 << 32, math.MinInt, math.MaxInt}

func checkFormat(t *testing.T, v impl.Verdict, want string) {
	t.Helper()
	if got := impl.FormatVerdict(v); got != want {
		t.Errorf("FormatVerdict(%v) = %q, want %q", v, got, want)
	}
}

func TestNames(t *testing.T) {
	for code := -3; code <= 12; code++ {
		want := ""
		if code >= 1 && code <= 3 {
			want = verdictNames[code-1]
		}
		if got := impl.VerdictName(code); got != want {
			t.Errorf("VerdictName(%d) = %q, want %q", code, got, want)
		}
		want = ""
		if code >= 0 && code <= 9 {
			want = reasonNames[code]
		}
		if got := impl.ReasonName(code); got != want {
			t.Errorf("ReasonName(%d) = %q, want %q", code, got, want)
		}
	}
	for _, n := range append(oddNumbers, 1<<32+1, 1-1<<32) {
		if impl.VerdictName(n) != "" || impl.ReasonName(n) != "" {
			t.Errorf("the names of %d are %q and %q", n, impl.VerdictName(n), impl.ReasonName(n))
		}
	}
	names := []string{impl.VerdictName(impl.VdValid), impl.VerdictName(impl.VdInvalid), impl.VerdictName(impl.VdOpen), impl.ReasonName(impl.RsNone), impl.ReasonName(impl.RsCert), impl.ReasonName(impl.RsEnded), impl.ReasonName(impl.RsMandate)}
	if !slices.Equal(names, []string{"valid", "invalid", "open", "none", "certificate", "ended", "mandate"}) {
		t.Errorf("the names are %v", names)
	}
}

// Verdicts are told in words, with every code, reason and span.
func TestFormatVerdict(t *testing.T) {
	spans := map[impl.Span]string{
		span(0, 0): "", span(3, 9): " 3-9", span(0, 2): " 0-2", span(2, 0): " 2-0", span(7, 7): " 7-7", span(0, 10000): " 0-10000", span(10000, 10000): " 10000-10000",
		span(-1, 5): " -1-5", span(-3, -2): " -3--2", span(0, -1): " 0--1", span(-1, 0): " -1-0", span(9, 3): " 9-3", span(20000, 30000): " 20000-30000",
		span(math.MinInt, math.MaxInt): " -9223372036854775808-9223372036854775807",
	}
	for s, text := range spans {
		for i, name := range verdictNames {
			for reason, reasonName := range reasonNames {
				checkFormat(t, verdict(i+1, reason, s), name+" "+reasonName+text)
			}
			for _, reason := range oddNumbers {
				checkFormat(t, verdict(i+1, reason, s), "")
			}
		}
		for _, code := range append(oddNumbers, 0, 4) {
			for reason := range reasonNames {
				checkFormat(t, verdict(code, reason, s), "")
			}
			for _, reason := range oddNumbers {
				checkFormat(t, verdict(code, reason, s), "")
			}
		}
	}
	checkFormat(t, impl.Verdict{}, "")
	checkFormat(t, impl.Verdict{Code: impl.VdValid}, "valid none")
	checkFormat(t, verdict(impl.VdInvalid, impl.RsEnded, span(3, 9)), "invalid ended 3-9")
	checkFormat(t, verdict(impl.VdOpen, impl.RsMandate, span(0, 2)), "open mandate 0-2")
}

func TestFormatWhatIsJudged(t *testing.T) {
	f, x := centuryFrame(90, 0), signedOf(11, 2, 0, 0)
	checkFormat(t, impl.Judge(f, evidenceOf(keptStrand(0)), threeParts(), x), "valid none 5-28")
	checkFormat(t, impl.Judge(f, impl.Evidence{}, threeParts(), x), "open broken")
	checkFormat(t, impl.Judge(f, evidenceOf(keptStrand(0)), threeParts(), impl.Signature{}), "invalid form")
}

func TestIsBetterAndIsKept(t *testing.T) {
	codes := append([]int{0, 1, 2, 3, 4}, oddNumbers...)
	for _, a := range codes {
		for _, b := range codes {
			// Neither the reason nor the span matters.
			for _, reasons := range [][2]int{{0, 0}, {8, 7}, {7, 8}, {-1, 99}} {
				x, y := verdict(a, reasons[0], span(3, 9)), verdict(b, reasons[1], span(8, 5))
				if got := impl.IsBetter(x, y); got != ((a == 1 || a == 2) && b == 3) {
					t.Errorf("IsBetter(%v, %v) = %t", x, y, got)
				}
				if got := impl.IsKept(x, y); got != (a == 3 || a == b) {
					t.Errorf("IsKept(%v, %v) = %t", x, y, got)
				}
			}
		}
	}
}

func TestIsNarrower(t *testing.T) {
	for _, a := range append(slices.Clone(someSpans), badSpans...) {
		for _, b := range append(slices.Clone(someSpans), badSpans...) {
			want := a.From >= 0 && a.From <= a.To && b.From >= 0 && b.To <= 10000 && b.From <= a.From && a.To <= b.To
			for _, codes := range [][2]int{{1, 1}, {1, 2}, {3, 1}, {0, 9}} {
				x, y := verdict(codes[0], codes[1], a), verdict(codes[1], codes[0], b)
				if got := impl.IsNarrower(x, y); got != want {
					t.Errorf("IsNarrower(%v, %v) = %t", x, y, got)
				}
			}
		}
	}
	if !impl.IsNarrower(verdict(1, 0, span(3, 9)), verdict(1, 0, span(3, 9))) || impl.IsNarrower(verdict(1, 0, span(3, 9)), verdict(1, 0, span(4, 9))) || impl.IsNarrower(verdict(1, 0, span(3, 9)), verdict(1, 0, span(3, 8))) {
		t.Error("spans that are equal or reach out by one")
	}
}
