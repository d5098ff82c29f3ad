package tests

import (
	"fmt"
	"regexp"
	"slices"
	"strconv"
	"strings"
	"testing"

	"loop.example/g00597/impl"
)

// consoleForms are the lines that a console understands: N is a number, L one that can be negative, + any more numbers, and * any words.
var consoleForms = map[string]string{
	"tick": "N", "sign": "NNNN*", "forge": "NNN*", "answer": "N", "revoke": "N", "forget": "N", "move": "NNN", "backdate": "NN", "fake": "NN", "renew": "NLN+", "judge": "N", "show": "N", "hide": "NN", "due": "NN",
	"plan": "", "liars": "", "size": "N", "world": "", "audit": "",
}

// readSlowlyAs returns the numbers and the words behind the first word of a line, and true; false if it does not have the form.
func readSlowlyAs(form string, words []string) ([]int, []string, bool) {
	pattern := "^"
	for _, c := range form {
		pattern += map[rune]string{'N': " (?:0|[1-9][0-9]*)", 'L': " -?(?:0|[1-9][0-9]*)", '+': "(?: (?:0|[1-9][0-9]*))*", '*': "(?s: [^ ]+)*"}[c]
	}
	line := ""
	for _, word := range words {
		line += " " + word
	}
	if !regexp.MustCompile(pattern + "$").MatchString(line) {
		return nil, nil, false
	}
	n := len(words)
	if strings.HasSuffix(form, "*") {
		n = len(form) - 1
	}
	numbers := []int{}
	for _, word := range words[:n] {
		number, err := strconv.Atoi(word)
		if err != nil || number > 1000000000000 || number < -1000000000000 {
			return nil, nil, false
		}
		numbers = append(numbers, number)
	}
	return numbers, words[n:], true
}

// documentSlowly returns the document with the seed 11, valid or not.
func documentSlowly(title int, parts []string) impl.Document {
	d := impl.Document{Title: title, Parts: parts}
	for i := range parts {
		d.Salts = append(d.Salts, max(1, keyedHashSlowly(11, []int{title, i})))
	}
	return d
}

// consoleSlowly tells by the definition alone what ConsoleLine returns.
func consoleSlowly(w impl.World, line string) (impl.World, string) {
	words := slices.DeleteFunc(strings.Split(line, " "), func(word string) bool { return word == "" })
	if len(words) == 0 || len(line) > 200 {
		return clone(w), "what"
	}
	form, known := consoleForms[words[0]]
	n, parts, ok := readSlowlyAs(form, words[1:])
	if !known || !ok {
		return clone(w), "what"
	}
	kind := slices.Index([]string{"", "tick", "sign", "answer", "revoke", "renew", "move", "forget", "forge", "backdate", "fake"}, words[0])
	if kind < 0 {
		return clone(w), lookSlowly(w, words[0], n)
	}
	e := impl.Event{Kind: kind, A: n[0]}
	switch kind {
	case 2:
		e.B, e.D, e.Doc = n[1], n[2], documentSlowly(n[3], parts)
	case 8:
		e.B, e.Doc = n[1], documentSlowly(n[2], parts)
	case 5:
		e.B, e.Ids = n[1], n[2:]
	case 6:
		e.B, e.C = n[1], n[2]
	case 9, 10:
		e.B = n[1]
	}
	next, ok := happenSlowly(w, e)
	switch {
	case !ok:
		return next, "no"
	case kind == 2 || kind == 8:
		return next, fmt.Sprint(w.Next)
	default:
		return next, "ok"
	}
}

// listSlowly returns numbers with blanks between them, or "-".
func listSlowly(numbers []int) string {
	if len(numbers) == 0 {
		return "-"
	}
	return strings.Trim(fmt.Sprint(numbers), "[]")
}

// lookSlowly tells by the definition alone what a line outputs that changes nothing.
func lookSlowly(w impl.World, word string, n []int) string {
	switch word {
	case "plan":
		return listSlowly(planSlowly(w.Frame))
	case "liars":
		return listSlowly(impl.LiarsIn(w.Frame.Keys, w.Frame.Authorities, stampsInSlowly(w)))
	case "world":
		return formatWorldSlowly(w)
	case "audit":
		return map[string]string{"": "ok", "world": "world", "forged": "forged"}[impl.FaultOf(w)]
	case "judge", "hide":
		i, k := whereSlowly(w, n[0])
		if i < 0 {
			return "no"
		}
		x := w.Archives[i].Items[k]
		if word == "judge" {
			return formatSlowly(judgedItemSlowly(w.Frame, x))
		}
		if !isDocumentSlowly(x.Doc) {
			return "no"
		}
		text := fmt.Sprint(x.Doc.Title)
		for j, part := range x.Doc.Parts {
			if j == n[1] {
				text += " *"
			} else {
				text += " [" + part + "]"
			}
		}
		return text + " " + formatSlowly(judgedItemSlowly(w.Frame, x))
	}
	if n[0] >= len(w.Archives) {
		return "no"
	}
	a, size, due := w.Archives[n[0]], 0, []int{}
	for _, x := range a.Items {
		size += impl.StrandSize(x.Strand)
		if word == "due" && needsSlowly(w.Frame, x, n[1]) {
			due = append(due, x.Id)
		}
	}
	return map[string]string{"show": formatArchiveSlowly(w.Frame, a), "size": fmt.Sprint(size), "due": listSlowly(due)}[word]
}

// checkConsole checks a line against its definition, and returns the world after it and the output.
func checkConsole(t *testing.T, w impl.World, line string) (impl.World, string) {
	t.Helper()
	next, output := impl.ConsoleLine(w, line)
	want, wantOutput := consoleSlowly(w, line)
	if output != wantOutput || !same(next, want) {
		t.Errorf("ConsoleLine(%q) = %q, want %q, and the world %v, want %v", line, output, wantOutput, next, want)
	}
	if (output == "no" || output == "what") && !same(next, w) {
		t.Errorf("ConsoleLine(%q) = %q, but changes something", line, output)
	}
	return next, output
}

func checkOutput(t *testing.T, w impl.World, line string, want string) impl.World {
	t.Helper()
	next, output := checkConsole(t, w, line)
	if output != want {
		t.Errorf("ConsoleLine(%q) = %q, want %q", line, output, want)
	}
	return next
}

// ordinaryLines are lines of every kind with their outputs in a busyWorld.
var ordinaryLines = map[string]string{
	"tick 5": "ok", "tick 0": "ok", "tick 100": "ok", "tick 101": "no", "sign 0 12 90 7 a yes": "4", "sign 1 13 0 0 x": "4", "sign 0 12 90 7": "no", "sign 2 12 90 7 a": "no", "sign 0 21 90 7 a": "no", "sign 0 12 10001 7 a": "no", "sign 0 12 90 1000 a": "no", "sign 0 12 90 999 a": "4",
	"forge 0 11 7 a": "4", "forge 0 11 7": "no", "forge 0 12 7 a": "no", "forge 5 11 7 a": "no", "answer 1": "ok", "answer 4": "no", "revoke 1": "ok", "revoke 0": "no", "revoke 3": "no", "forget 0": "ok", "forget 2": "no",
	"move 0 1 2": "ok", "move 1 0 2": "no", "move 1 1 1": "no", "backdate 3 5": "ok", "backdate 1 5": "no", "backdate 3 10001": "no", "fake 1 20": "ok", "fake 2 20": "no",
	"renew 0 0 1 2": "ok", "renew 1 -5 2 3": "ok", "renew 0 -10000 1": "ok", "renew 0 -10001 1": "no", "renew 0 10001 1": "no", "renew 0 0 4": "no", "renew 0 0 2 1": "no", "renew 2 0 1": "no", "renew 0 -0 1": "ok",
	"judge 1": "open certificate", "judge 9": "no", "show 0": "#2 k13 2/0 open time 40-52", "show 1": "#1 k12 3/1 open certificate; #3 k11 2/0 open broken", "show 2": "no",
	"hide 1 0": "1 * [bc] open certificate", "hide 2 1": "2 [a] * open time 40-52", "hide 2 2": "2 [a] [bc] open time 40-52", "hide 2 1000000000000": "2 [a] [bc] open time 40-52", "hide 9 0": "no",
	"due 0 5": "2", "due 1 0": "1 3", "due 1 1000000000000": "1 3", "due 2 0": "no", "plan": "2 3", "liars": "-", "size 0": "20", "size 1": "62", "size 2": "no", "world": "52 1+2 0/0/3 1", "audit": "ok",
}

func TestConsoleLines(t *testing.T) {
	w := busyWorld()
	for line, want := range ordinaryLines {
		checkOutput(t, w, line, want)
		// Blanks in front, behind and between do not matter; other white space does.
		words := strings.Split(line, " ")
		checkOutput(t, w, "  "+strings.Join(words, "   ")+" ", want)
		checkOutput(t, w, "\t"+line, "what")
		checkOutput(t, w, words[0]+"\t"+strings.Join(words[1:], " "), "what")
		for _, odd := range []string{strings.ToUpper(line), line[1:], "x " + line, line + " -", words[0] + words[0]} {
			checkConsole(t, w, odd)
		}
	}
	kinds := map[string]bool{}
	for line := range ordinaryLines {
		kinds[strings.Split(line, " ")[0]] = true
	}
	if len(kinds) != len(consoleForms) {
		t.Errorf("only the lines %v were tried", kinds)
	}
}

// One word too few or too many, or one that is not what it should be.
func TestConsoleLinesThatAreNotUnderstood(t *testing.T) {
	w := busyWorld()
	odd := []string{"x", "-", "-1", "--1", "+1", "01", "00", "1.0", "0x1", "1e3", "１", "1_000", "1,", "1000000000001", "9223372036854775807", "9223372036854775808", "18446744073709551617", "-1000000000001", "\t", "1\t", "1\n", "", "é", "\xff"}
	for word, form := range consoleForms {
		for _, first := range []string{"0", "1", "2"} {
			words := append([]string{word}, slices.Repeat([]string{first}, len(strings.TrimRight(form, "+*")))...)
			line := strings.Join(words, " ")
			if _, output := checkConsole(t, w, line); output == "what" {
				t.Errorf("ConsoleLine(%q) = %q", line, output)
			}
			for n := 1; n < len(words); n++ {
				checkOutput(t, w, strings.Join(words[:n], " "), "what")
			}
			_, output := checkConsole(t, w, line+" 7")
			if isOpen := form != strings.TrimRight(form, "+*"); isOpen == (output == "what") {
				t.Errorf("ConsoleLine(%q) = %q", line+" 7", output)
			}
			for i := 1; i < len(words); i++ {
				for _, bad := range odd {
					changed := slices.Clone(words)
					changed[i] = bad
					_, output := checkConsole(t, w, strings.Join(changed, " "))
					if isSigned := form[i-1] == 'L' && bad == "-1"; isSigned == (output == "what") {
						t.Errorf("ConsoleLine(%q) = %q", strings.Join(changed, " "), output)
					}
				}
			}
		}
	}
	for _, line := range []string{"", " ", "    ", "\t", "\n", "what", "no", "ok", "Tick 5", "ticks 5", "tic 5", "5 tick", "tick5", "tick 5 ; world", "world\n", "world\nworld", "\x00", "\xff", "sign", "renew 0 - 1", "renew 0 -- 1", "renew 0 1-", "renew -0 0 1", "renew 0 0 -1", "renew 0 0 1 x", "renew 0 0 x 2", "renew 0 0 1 x 2", "renew 0 0 1 -2 3", "renew 0 0 1 2 -3", "renew 0 -00 1", "renew 0 5"} {
		checkOutput(t, w, line, "what")
	}
}

func TestConsoleDocuments(t *testing.T) {
	w := busyWorld()
	next := checkOutput(t, w, "sign 0 12 90 7 a 17 -3 [x] * sign", "4")
	if x := next.Archives[0].Items[1]; !slices.Equal(x.Doc.Parts, []string{"a", "17", "-3", "[x]", "*", "sign"}) || x.Doc.Title != 7 || x.Keep != 90 || x.Sig.Org != 0 || x.Sig.Key != 12 {
		t.Errorf("the item is %v", x)
	}
	if d, _ := impl.MakeDocument(7, []string{"a", "17", "-3", "[x]", "*", "sign"}, 11); !same(next.Archives[0].Items[1].Doc, d) {
		t.Errorf("the document is %v, want %v", next.Archives[0].Items[1].Doc, d)
	}
	forged := checkOutput(t, w, "forge 1 11 7 a\tb \xff\x00", "4")
	if x := forged.Archives[1].Items[2]; !slices.Equal(x.Doc.Parts, []string{"a\tb", "\xff\x00"}) || x.Keep != 10000 || !slices.Equal(forged.Forged, []int{3, 4}) {
		t.Errorf("the item is %v", x)
	}
	for _, start := range []string{"sign 0 12 90", "forge 0 11"} {
		for words, want := range map[string]string{
			"7 1 2 3 4 5 6": "4", "7 1 2 3 4 5 6 7": "no", "7 " + fortyBytes: "4", "7 " + fortyBytes + "0": "no", "7 a " + fortyBytes + "0": "no", "7 " + fortyWide: "4", "7": "no", "0 a": "4", "999 a": "4", "1000 a": "no", "1000000000000 a": "no", "1000000000001 a": "what", "-7 a": "what", "a 7": "what", "07 a": "what",
		} {
			checkOutput(t, w, start+" "+words, want)
		}
	}
}

func TestConsoleLineLength(t *testing.T) {
	w := busyWorld()
	for n := 195; n <= 206; n++ {
		for line, want := range map[string]string{
			"tick 5" + strings.Repeat(" ", n-6): "ok", strings.Repeat(" ", n-5) + "world": "52 1+2 0/0/3 1", "tick" + strings.Repeat(" ", n-5) + "5": "ok",
			"sign 0 12 90 7 " + strings.Repeat("aaaaaaaaa ", 4) + strings.Repeat(" ", n-56) + "b": "4",
		} {
			if len(line) > 200 {
				want = "what"
			}
			if len(line) != n {
				t.Fatalf("the line %q has %d bytes", line, len(line))
			}
			checkOutput(t, w, line, want)
		}
	}
	// Bytes count, and not characters.
	wide := "sign 0 12 90 7 é" + strings.Repeat(" ", 183)
	checkOutput(t, w, wide, "4")
	checkOutput(t, w, wide+" ", "what")
	checkOutput(t, w, strings.Repeat("x", 100000), "what")
}

func TestConsoleLooks(t *testing.T) {
	w := judgedWorld()
	for line, want := range map[string]string{
		"judge 1": "valid none 0-26", "judge 2": "open time 20-26", "judge 3": "invalid mark", "judge 5": "no", "judge 0": "no", "show 1": "#3 k11 2/1 invalid mark; #4 k11 3/1 valid none 0-26", "hide 4 1": "4 [a] * valid none 0-26", "hide 3 0": "3 * [bc] invalid mark",
		"due 0 14": "1 2", "due 0 13": "-", "due 1 13": "-", "plan": "1 2", "liars": "-", "world": "26 2+2 2/1/1 0", "audit": "ok", "size 0": strconv.Itoa(impl.ArchiveSize(w.Archives[0])),
	} {
		checkOutput(t, w, line, want)
	}
	// Nobody has stamps, and nobody can be asked for any.
	none := withWorld(impl.NewWorld(0), func(w *impl.World) { w.Frame.Authorities = nil })
	for line, want := range map[string]string{"plan": "-", "liars": "-", "show 0": "-", "due 0 0": "-", "size 0": "0", "world": "0 0+0 0/0/0 0", "audit": "world"} {
		checkOutput(t, none, line, want)
	}
	// A liar that can be proved to, and a forged item that is judged valid.
	liar := checkOutput(t, checkOutput(t, withWorld(w, func(w *impl.World) { w.Lying, w.Frame.Liars = []int{1}, 1 }), "renew 0 3 1 2", "ok"), "renew 0 -3 1 2", "ok")
	checkOutput(t, liar, "liars", "1")
	checkOutput(t, withWorld(w, func(w *impl.World) { w.Forged = []int{4} }), "audit", "forged")
	// Worlds that are not valid: an item that is not valid either, an archive by its index, and no archive.
	odd := withWorld(w, func(w *impl.World) { w.Archives[0].Items[0].Doc, w.Archives[1].Id = impl.Document{}, 7 })
	for line, want := range map[string]string{"hide 1 0": "no", "judge 1": "open document", "audit": "world", "size 7": "no", "due 1 0": "-", "forget 1": "ok"} {
		checkOutput(t, odd, line, want)
	}
	for line, want := range map[string]string{"show 0": "no", "size 0": "no", "due 0 0": "no", "world": "0  0/0/0 0", "audit": "world", "tick 5": "ok", "judge 0": "no", "hide 0 0": "no", "plan": "-", "liars": "-", "sign 0 12 90 7 a": "no", "renew 0 0 1": "no", "move 0 1 1": "no", "forget 0": "no"} {
		checkOutput(t, impl.World{}, line, want)
	}
}

// Looking changes nothing, and every line has an answer, in all kinds of worlds.
func TestConsoleInManyWorlds(t *testing.T) {
	for seed := range uint64(8) {
		w := impl.NewWorld(int(seed % 2))
		for _, e := range historyOf(700+seed, w, 50, seed%3 == 0) {
			w, _ = happenSlowly(w, e)
			if e.Kind != impl.EvRenew && e.Kind != impl.EvFake {
				continue
			}
			for line := range ordinaryLines {
				checkConsole(t, w, line)
			}
		}
	}
}

func checkRun(t *testing.T, text string, want ...string) {
	t.Helper()
	if got, ok := impl.RunConsole(text); !ok || !slices.Equal(got, want) {
		t.Errorf("RunConsole(%q) = %q, %t, want %q", text, got, ok, want)
	}
}

func TestRunConsole(t *testing.T) {
	checkRun(t, "")
	checkRun(t, "world", "0 0+0 0/0/0 0")
	checkRun(t, "world\n", "0 0+0 0/0/0 0")
	checkRun(t, "\n", "what")
	checkRun(t, "\n\n", "what", "what")
	checkRun(t, "\nworld", "what", "0 0+0 0/0/0 0")
	checkRun(t, "world\n\n", "0 0+0 0/0/0 0", "what")
	checkRun(t, " ", "what")
	checkRun(t, "tick 5\r\nworld\r\n", "what", "what")
	checkRun(t, "tick 5\ntick x\ntick 101\nworld", "ok", "what", "no", "5 0+0 0/0/0 0")
	// It begins with a liar.
	checkRun(t, "tick 22\nsign 0 12 9000 1 a\nrenew 0 5 1 2\nrenew 0 -5 1 2\nliars\nshow 0", "ok", "1", "ok", "ok", "1", "#1 k12 2/2 open time 20-22")
	checkRun(t, "tick 22\nsign 0 11 9000 1 a\ntick 1\nrenew 0 -5 1 2\ntick 3\nanswer 1\njudge 1\nrevoke 0\ntick 2\nanswer 1\njudge 1\nhide 1 0\ndue 0 11\ndue 0 12\nsize 0\nplan\naudit",
		"ok", "1", "ok", "ok", "ok", "ok", "valid none 0-25", "ok", "ok", "ok", "valid none 0-25", "1 * valid none 0-25", "-", "1", "49", "1 2", "ok")
}

func TestRunConsoleLimits(t *testing.T) {
	for n := 58; n <= 63; n++ {
		for _, end := range []string{"", "\n", "\n\n"} {
			text := strings.Repeat("tick 1\n", n-1) + "world" + end
			lines := n
			if end == "\n\n" {
				lines++
			}
			got, ok := impl.RunConsole(text)
			if ok != (lines <= 60) || ok && (len(got) != lines || got[n-1] != fmt.Sprintf("%d 0+0 0/0/0 0", n-1)) || !ok && len(got) != 0 {
				t.Errorf("RunConsole of %d lines = %q, %t", lines, got, ok)
			}
		}
	}
	if got, ok := impl.RunConsole(strings.Repeat("\n", 60)); !ok || len(got) != 60 || got[59] != "what" {
		t.Errorf("RunConsole of 60 empty lines = %q, %t", got, ok)
	}
	if got, ok := impl.RunConsole(strings.Repeat("\n", 61)); ok || got != nil {
		t.Errorf("RunConsole of 61 empty lines = %q, %t", got, ok)
	}
	checkRun(t, "world"+strings.Repeat(" ", 195)+"\nworld"+strings.Repeat(" ", 196), "0 0+0 0/0/0 0", "what")
}

// The outputs are those of the lines, one after the other.
func TestRunConsoleLineByLine(t *testing.T) {
	lines := []string{"tick 30", "sign 0 11 9000 1 a yes", "renew 0 -5 1 2", "tick 2", "sign 1 12 9000 2 b"}
	for line := range ordinaryLines {
		lines = append(lines, line)
	}
	slices.Sort(lines[5:])
	for i := 0; i+60 <= len(lines); i += 7 {
		text, w, want := "", impl.NewWorld(1), []string{}
		for _, line := range lines[i : i+60] {
			next, output := consoleSlowly(w, line)
			text, w, want = text+line+"\n", next, append(want, output)
		}
		checkRun(t, text, want...)
	}
}

// consoleResult is what ConsoleLine returns.
type consoleResult struct {
	World  impl.World
	Output string
}

func TestConsoleLeavesArgumentsAlone(t *testing.T) {
	for line := range ordinaryLines {
		checkMemory(t, "ConsoleLine", busyWorld(), func(w impl.World) consoleResult {
			next, output := impl.ConsoleLine(w, line)
			return consoleResult{next, output}
		})
	}
	checkMemory(t, "ConsoleLine", judgedWorld(), func(w impl.World) consoleResult {
		next, output := impl.ConsoleLine(w, "what")
		return consoleResult{next, output}
	})
	checkMemory(t, "RunConsole", "tick 5\nworld", func(text string) []string {
		outputs, _ := impl.RunConsole(text)
		return outputs
	})
}
