package tests

import (
	"fmt"
	"math/rand"
	"regexp"
	"slices"
	"strconv"
	"strings"
	"testing"

	"loop.example/g00562/impl"
)

// wantDeskCatalog is the one that chapter 13 names.
func wantDeskCatalog() impl.Catalog {
	return impl.Catalog{
		Meters: []impl.Meter{
			{Name: "cpu", Agg: 1, Free: 10, Tiers: []impl.Tier{{Upto: 100, Price: 50}, {Upto: 1000000000000, Price: 20}}},
			{Name: "disk", Agg: 2, Whole: true, Least: 500, Tiers: []impl.Tier{{Upto: 50, Price: 9}, {Upto: 200, Price: 7}, {Upto: 1000000000000, Price: 5}}},
			{Name: "users", Agg: 3, Tiers: []impl.Tier{{Upto: 1000000000000, Price: 1000}}},
		},
		Credits: []impl.Credit{{Account: "ann", Micro: 3000}},
	}
}

func TestDeskEngine(t *testing.T) {
	want := impl.Engine{Catalog: wantDeskCatalog(), Sources: sourcesOf("east", "west")}
	first := impl.DeskEngine()
	is(t, "the desk's engine", first, want)
	checkRightCatalog(t, "the desk's catalog", first.Catalog)
	isNew(t, "the desk's engine", first, impl.DeskEngine())
	spoilCatalog(first.Catalog)
	first.Sources[0].Mark = 1
	is(t, "asked again", impl.DeskEngine(), want)
}

// lineForm is what the table of chapter 13 lets a line be. A word is of any bytes but a blank and a line feed.
var lineForm = regexp.MustCompile(`\A(?s:use( [^ \n]+){3}( NUM){3}|tick [^ \n]+( NUM){2}|close|net [^ \n]+ NUM|crash NUM)\z`)

// numberForm is what a number in digits may be.
var numberForm = regexp.MustCompile(`\A(0|[1-9][0-9]{0,8})\z`)

// rightLine tells whether a line, without its line feed, is one of the table's. The numbers stand at the end of each kind.
func rightLine(line string) bool {
	numbers := map[string]int{"use": 3, "tick": 2, "net": 1, "crash": 1}
	words := strings.Split(line, " ")
	for i := max(1, len(words)-numbers[words[0]]); i < len(words); i++ {
		if !numberForm.MatchString(words[i]) {
			return false
		}
		words[i] = "NUM"
	}
	// What is no right text of runes is laid as one that is: each byte counts alone.
	runes := make([]rune, 0, len(line))
	for _, b := range []byte(strings.Join(words, " ")) {
		runes = append(runes, rune(b))
	}
	return lineForm.MatchString(string(runes))
}

// wantFault is the fault that a desk's text has: of a right one the zero answer.
func wantFault(text string) impl.DeskOut {
	if len(text) > 8000 {
		return impl.DeskOut{Code: impl.ErrSize}
	}
	for i, line := range strings.SplitAfter(text, "\n") {
		if line == "" {
			continue // behind the last line feed
		}
		if i >= 30 || !strings.HasSuffix(line, "\n") || !rightLine(strings.TrimSuffix(line, "\n")) {
			return impl.DeskOut{Line: int64(i), Code: impl.ErrSyntax}
		}
	}
	return impl.DeskOut{}
}

// wantMinute is the minute of a day of a month, or -1.
func wantMinute(month int64, day int64) int64 {
	if month > lastMonth || !inside(day, 1, 100000) {
		return -1
	}
	return wantStart(month) + 1440*(day-1)
}

// deskUse is the event of a line of use.
func deskUse(words []string, numbers []int64) impl.Event {
	tag := words[0]
	if len(tag) > 10 {
		tag = tag[:10]
	}
	return impl.Event{Id: words[0], Account: words[1], Meter: words[2], Minute: wantMinute(numbers[0], numbers[1]), Amount: numbers[2], Tag: tag}
}

// countWord is what a line of use tells of its one event.
func countWord(n impl.Counts) string {
	return map[impl.Counts]string{{Took: 1}: "took", {Twice: 1}: "twice", {Clash: 1}: "clash", {Late: 1}: "late", {Other: 1}: "other"}[n]
}

// toldLines is how lines are told, each behind the mark ahead of it.
func toldLines(lines []impl.Line, mark string) string {
	out := ""
	for _, line := range lines {
		out += fmt.Sprint(mark, line.Meter, "=", line.Micro)
	}
	return out
}

// orDash tells none as a dash, and cuts the mark ahead of the first.
func orDash(text string) string {
	if text == "" {
		return "-"
	}
	return text[1:]
}

// toldDocs is how documents are told.
func toldDocs(docs []impl.Doc) string {
	out := ""
	for _, d := range docs {
		out += fmt.Sprintf(";%s %d-%02d#%d%s", d.Account, 1970+d.Month/12, d.Month%12+1, d.Seq, toldLines(d.Lines, " "))
	}
	return orDash(out)
}

// wantTold is what a right line tells of an engine, and the engine behind it. There is no store here: a desk's log never is full, and all of it is synced.
func wantTold(e impl.Engine, line string) (impl.Engine, string) {
	all := strings.Split(line, " ")
	var words []string
	var numbers []int64
	counts := map[string]int{"use": 3, "tick": 1, "net": 1}
	for i, word := range all[1:] {
		if i < counts[all[0]] {
			words = append(words, word)
			continue
		}
		n, _ := strconv.ParseInt(word, 10, 64)
		numbers = append(numbers, n)
	}
	got, tells := impl.EngineOut{}, ""
	switch all[0] {
	case "use":
		x := deskUse(words, numbers)
		if !impl.EventRight(x) {
			return e, "error 1"
		}
		got = wantIngest(e, []impl.Event{x})
		tells = countWord(got.Counts)
	case "tick":
		got, tells = wantTick(e, words[0], wantMinute(numbers[0], numbers[1])), "ok"
	case "close":
		got = wantClose(e)
		tells = toldDocs(got.Docs)
	case "net":
		return e, orDash(toldLines(wantNet(e.Docs, words[0], numbers[0]), ","))
	case "crash":
		return e, fmt.Sprint("docs ", len(e.Docs))
	}
	if got.Code != impl.OK {
		return e, fmt.Sprint("error ", got.Code)
	}
	return got.Engine, tells
}

// wantTells is what right lines tell, one by one.
func wantTells(lines []string) []string {
	e := impl.Engine{Catalog: wantDeskCatalog(), Sources: sourcesOf("east", "west")}
	out := make([]string, len(lines))
	for i, line := range lines {
		e, out[i] = wantTold(e, line)
	}
	return out
}

// ended lays a line feed behind each line.
func ended(lines []string) string {
	out := ""
	for _, line := range lines {
		out += line + "\n"
	}
	return out
}

// checkDesk asks right lines for what they tell.
func checkDesk(t *testing.T, what string, lines []string, tells []string) {
	t.Helper()
	text := ended(lines)
	got := impl.DeskRun(text)
	is(t, what, got, impl.DeskOut{Text: ended(tells)})
	isNew(t, what, got, text)
	is(t, what+": no fault", impl.DeskFault(text), impl.DeskOut{})
}

// checkSteps asks lines, each beside what it tells, by hand; what the document makes of them tells the same.
func checkSteps(t *testing.T, what string, steps ...[2]string) {
	t.Helper()
	var lines, tells []string
	for _, step := range steps {
		lines, tells = append(lines, step[0]), append(tells, step[1])
	}
	is(t, what+": by the document", wantTells(lines), tells)
	checkDesk(t, what, lines, tells)
}

// checkFault asks a text for its fault alone: nothing else may stand beside it.
func checkFault(t *testing.T, what string, text string, fault impl.DeskOut) {
	t.Helper()
	is(t, what+": by the document", wantFault(text), fault)
	is(t, what, impl.DeskRun(text), fault)
	is(t, what+": the fault", impl.DeskFault(text), fault)
}

// noLine is the fault of a text whose line at that place is none.
func noLine(place int) impl.DeskOut {
	return impl.DeskOut{Line: int64(place), Code: impl.ErrSyntax}
}

// rightLines are one of each kind.
func rightLines() []string {
	return []string{"use e1 ann cpu 600 1 110", "tick east 600 2", "close", "net ann 600", "crash 0"}
}

// checkNoLine lays a line that is none alone, at each place of others, ahead of the end of a text without a line feed, and ahead of another one that is none.
func checkNoLine(t *testing.T, what string, wrong string) {
	t.Helper()
	lines := rightLines()
	for place := range len(lines) + 1 {
		with := slices.Insert(slices.Clone(lines), place, wrong)
		checkFault(t, fmt.Sprint(what, " at ", place), ended(with), noLine(place))
		checkFault(t, fmt.Sprint(what, " at ", place, ", and others behind"), ended(with)+ended([]string{"", wrong, "close 1"})+"close", noLine(place))
	}
	checkFault(t, what+" alone", wrong+"\n", noLine(0))
}

func TestDeskWords(t *testing.T) {
	is(t, "MaxDesk", impl.MaxDesk, 30)
	want := []string{"close", "crash", "net", "tick", "use"}
	got := impl.DeskWords()
	is(t, "the words", got, want)
	is(t, "they rise", slices.IsSorted(got), true)
	got[0], got[4] = "other", ""
	is(t, "asked again", impl.DeskWords(), want)
	for _, line := range rightLines() {
		word, _, _ := strings.Cut(line, " ")
		is(t, word+" is one of them", slices.Contains(want, word), true)
	}
}

func TestDeskOfNothing(t *testing.T) {
	is(t, "the empty text", impl.DeskRun(""), impl.DeskOut{})
	is(t, "the empty text: the fault", impl.DeskFault(""), impl.DeskOut{})
	for _, text := range []string{"\n", " ", "\x00", "x", "\n\n", " \n", "\r\n", "close", "\nclose\n"} {
		checkFault(t, fmt.Sprintf("%q", text), text, noLine(0))
	}
}

func TestDeskTextSizes(t *testing.T) {
	great := func(size int) string { return "net " + longText(size-len("net  1\n")) + " 1\n" }
	for _, size := range []int{7999, 8000} {
		is(t, fmt.Sprint(size, " bytes in one line"), impl.DeskRun(great(size)), impl.DeskOut{Text: "-\n"})
		is(t, fmt.Sprint(size, " bytes in one line: no fault"), impl.DeskFault(great(size)), impl.DeskOut{})
		text := "close\nuse " + longText(size-len("close\nuse  a b 1 1 1\n")) + " a b 1 1 1\n"
		is(t, fmt.Sprint(size, " bytes in two lines"), impl.DeskRun(text), impl.DeskOut{Text: "-\nerror 1\n"})
		text = "tick " + longText(size-len("tick  1 1\ncrash 9\n")) + " 1 1\ncrash 9\n"
		is(t, fmt.Sprint(size, " bytes, a great source"), impl.DeskRun(text), impl.DeskOut{Text: "error 6\ndocs 0\n"})
		checkFault(t, fmt.Sprint(size, " bytes that are no line"), longText(size), noLine(0))
		checkFault(t, fmt.Sprint(size, " line feeds"), strings.Repeat("\n", size), noLine(0))
	}
	for _, text := range []string{great(8001), longText(8001), great(9000), strings.Repeat("\n", 8001), "close\n" + great(7995), strings.Repeat("close\n", 1334), longText(100000)} {
		checkFault(t, "too long: "+told(text), text, impl.DeskOut{Code: impl.ErrSize})
	}
}

func TestDeskLineCounts(t *testing.T) {
	for _, line := range rightLines() {
		for _, count := range []int{1, 2, 29, 30} {
			lines := slices.Repeat([]string{line}, count)
			checkDesk(t, fmt.Sprint(count, " times ", line), lines, wantTells(lines))
			checkFault(t, fmt.Sprint(count, " times ", line, ", without the last line feed"), strings.TrimSuffix(ended(lines), "\n"), noLine(count-1))
			checkFault(t, fmt.Sprint(count, " times ", line, ", then nothing but a line feed"), ended(lines)+"\n", noLine(count))
		}
		for _, count := range []int{31, 32, 60, 200} {
			lines := slices.Repeat([]string{line}, count)
			checkFault(t, fmt.Sprint(count, " times ", line), ended(lines), noLine(30))
			lines[29] = "x"
			checkFault(t, "the last one that may be is none", ended(lines), noLine(29))
			lines[0] = ""
			checkFault(t, "so is the first", ended(lines), noLine(0))
			lines[0], lines[29], lines[30] = line, line, "x"
			checkFault(t, "the first one too many is none", ended(lines), noLine(30))
		}
		checkFault(t, "one too many without a line feed", strings.Repeat("close\n", 30)+line, noLine(30))
		checkFault(t, "one too many that is but a blank", strings.Repeat("close\n", 30)+" ", noLine(30))
	}
}

// TestDeskCutOff cuts a text at each byte: only behind a line feed it is right.
func TestDeskCutOff(t *testing.T) {
	text := ended(rightLines())
	for end := range len(text) + 1 {
		ahead := text[:end]
		if ahead == "" || strings.HasSuffix(ahead, "\n") {
			is(t, fmt.Sprint("the first ", end, " bytes"), impl.DeskFault(ahead), impl.DeskOut{})
			continue
		}
		checkFault(t, fmt.Sprint("the first ", end, " bytes"), ahead, noLine(strings.Count(ahead, "\n")))
	}
}

func TestDeskFirstWords(t *testing.T) {
	for _, line := range rightLines() {
		word, behind, _ := strings.Cut(line, " ")
		others := []string{strings.ToUpper(word), strings.ToUpper(word[:1]) + word[1:], word[1:], word[:len(word)-1], word + "s", word + ":", "x" + word, "\t" + word, word + "\t", "0", "-", "x", "open", "drain"}
		for _, other := range others {
			checkNoLine(t, fmt.Sprintf("%q for %s", other, word), strings.TrimSuffix(other+" "+behind, " "))
		}
	}
	for _, one := range rightLines() {
		for _, two := range rightLines() {
			word, _, _ := strings.Cut(one, " ")
			first, behind, _ := strings.Cut(two, " ")
			if line := strings.TrimSuffix(word+" "+behind, " "); word != first && !rightLine(line) {
				checkNoLine(t, word+" for "+first, line)
			}
		}
	}
}

func TestDeskWordCounts(t *testing.T) {
	for _, line := range rightLines() {
		words := strings.Split(line, " ")
		for place := range words {
			fewer := slices.Delete(slices.Clone(words), place, place+1)
			checkNoLine(t, fmt.Sprint(line, " without its word ", place), strings.Join(fewer, " "))
			checkNoLine(t, fmt.Sprint(line, " with an empty word for ", place), strings.Join(slices.Insert(fewer, place, ""), " "))
		}
		for place := range len(words) + 1 {
			for _, other := range []string{"", "1", "x", "close"} {
				more := slices.Insert(slices.Clone(words), place, other)
				checkNoLine(t, fmt.Sprintf("%s with %q more at %d", line, other, place), strings.Join(more, " "))
			}
		}
		for _, wrong := range []string{" " + line, line + " ", "  " + line, line + "  ", line + "\r", line + "\t", line + "\x00", line + " " + line, line + ";"} {
			checkNoLine(t, fmt.Sprintf("%q", wrong), wrong)
		}
		if len(words) > 1 {
			for _, blank := range []string{"  ", "\t", "\v", "\u00a0", "", "_", "\x00", " \t"} {
				checkNoLine(t, fmt.Sprintf("%s with %q for blanks", line, blank), strings.Join(words, blank))
			}
		}
	}
}

// numberPlaces tells which words of a line are numbers.
func numberPlaces(line string) []int {
	var out []int
	for i, word := range strings.Split(line, " ") {
		if numberForm.MatchString(word) {
			out = append(out, i)
		}
	}
	return out
}

// withWord is the line with another word at that place.
func withWord(line string, place int, word string) string {
	words := strings.Split(line, " ")
	words[place] = word
	return strings.Join(words, " ")
}

func TestDeskNumbers(t *testing.T) {
	is(t, "numbers", [][]int{numberPlaces("use e1 ann cpu 600 1 110"), numberPlaces("tick east 600 2"), numberPlaces("close"), numberPlaces("net ann 600"), numberPlaces("crash 0")}, [][]int{{4, 5, 6}, {2, 3}, nil, {2}, {1}})
	wrong := []string{"x", "-", "+", "-1", "+1", "-0", "1x", "x1", "1.", "1.0", "1e3", "1_0", "0x1", "00", "01", "000", "007", "000000000", "000000001", "0000000000", "1000000000", "1234567890", "9999999999", "01234567890", "18446744073709551617", "9223372036854775808", "\u0661", "\uff11", "1\x00", "1\t", "\xb1", "1,", "/", ":", "1/", "1:", "/1", ":1"}
	right := []string{"0", "1", "9", "10", "99", "100", "2760", "2761", "100000", "100001", "99999999", "100000000", "123456789", "999999999"}
	for _, line := range rightLines() {
		for _, place := range numberPlaces(line) {
			for _, word := range wrong {
				checkNoLine(t, fmt.Sprintf("%s with %q for its word %d", line, word, place), withWord(line, place, word))
			}
			for _, word := range right {
				lines := []string{withWord(line, place, word), line, "net ann 600"}
				checkDesk(t, strings.Join(lines, ", "), lines, wantTells(lines))
			}
		}
	}
}

// TestDeskAnyWords: where the table has a word in capitals any bytes may stand; what it names is asked for later.
func TestDeskAnyWords(t *testing.T) {
	words := []string{"e1", "0", "01", "-", "ANN", "close", "\x00", "\t", "\r", "\xff\xfe", "\u00e9", "a;b", "=", longText(20), longText(21), longText(500)}
	for b := range 256 {
		if b != ' ' && b != '\n' {
			words = append(words, string([]byte{byte(b)}))
		}
	}
	for _, word := range words {
		lines := []string{"use " + word + " ann cpu 600 1 5", "use e1 " + word + " cpu 600 1 5", "use e2 ann " + word + " 600 1 5", "tick " + word + " 600 1", "net " + word + " 600"}
		tells := wantTells(lines)
		checkDesk(t, fmt.Sprintf("the word %q", word), lines, tells)
		is(t, "an account of none has no net", tells[4], "-")
	}
}

// TestDeskManyFaults lays several wrong lines: the first of them is told.
func TestDeskManyFaults(t *testing.T) {
	draws := sameDraws()
	wrong := []string{"", " ", "close 1", "use", "net ann", "crash -1", "tick east 600 01", "x"}
	for range 400 {
		lines := slices.Repeat(rightLines(), 1+draws.Intn(7))
		first := len(lines)
		for range 1 + draws.Intn(4) {
			place := draws.Intn(len(lines))
			lines[place] = wrong[draws.Intn(len(wrong))]
			first = min(first, place)
		}
		checkFault(t, fmt.Sprintf("%q", lines), ended(lines), noLine(min(first, 30)))
	}
}

func TestDeskUse(t *testing.T) {
	checkSteps(t, "taken once",
		[2]string{"use e1 ann cpu 600 1 110", "took"},
		[2]string{"use e1 ann cpu 600 1 110", "twice"},
		[2]string{"use e1 ann cpu 600 1 111", "clash"},
		[2]string{"use e1 ann cpu 600 2 110", "clash"},
		[2]string{"use e1 ann cpu 601 1 110", "clash"},
		[2]string{"use e1 bob cpu 600 1 110", "clash"},
		[2]string{"use e1 ann disk 600 1 110", "clash"},
		[2]string{"use e2 ann cpu 600 1 110", "took"},
		[2]string{"use E1 ann cpu 600 1 110", "took"},
		[2]string{"use e1 ann net 600 1 110", "other"},
		[2]string{"use e3 ann net 600 1 110", "other"},
		[2]string{"use e3 ann cpu 600 1 110", "took"},
		[2]string{"use e1 ann cpu 600 1 110", "twice"},
		[2]string{"use e4 ann cpu 600 1 999999999", "took"},
		[2]string{"use e5 ann cpu 600 1 0", "took"},
		[2]string{"net ann 600", "-"},
	)
}

// TestDeskLate: more than Lateness, two days, below the mark.
func TestDeskLate(t *testing.T) {
	checkSteps(t, "late",
		[2]string{"tick east 601 4", "ok"},
		[2]string{"use a ann cpu 600 1 5", "took"},
		[2]string{"tick west 601 4", "ok"},
		[2]string{"use b ann cpu 601 1 5", "late"},
		[2]string{"use b ann cpu 601 2 5", "took"},
		[2]string{"use b ann cpu 601 1 5", "late"},
		[2]string{"use a ann cpu 600 1 5", "late"},
		[2]string{"use c ann net 601 1 5", "late"},
		[2]string{"use c ann net 601 2 5", "other"},
		[2]string{"use d ann cpu 600 33 5", "took"},
		[2]string{"use e ann cpu 600 32 5", "late"},
		[2]string{"use f ann cpu 601 0 5", "error 1"},
		[2]string{"close", "ann 2020-01#0"},
		[2]string{"tick west 601 3", "error 8"},
		[2]string{"use b ann cpu 601 2 5", "twice"},
		[2]string{"use b ann cpu 601 3 5", "clash"},
	)
}

// TestDeskUseErrors: what is no event has no bytes. It is kept nowhere: what is right of that id is taken.
func TestDeskUseErrors(t *testing.T) {
	wrong := []string{
		"use " + longText(21) + " ann cpu 600 1 5",
		"use e\x1f ann cpu 600 1 5",
		"use \x7f ann cpu 600 1 5",
		"use \u00e9 ann cpu 600 1 5",
		"use e1 Ann cpu 600 1 5",
		"use e1 1ann cpu 600 1 5",
		"use e1 " + longText(21) + " cpu 600 1 5",
		"use e1 ann CPU 600 1 5",
		"use e1 ann cpu- 600 1 5",
		"use e1 ann " + longText(21) + " 600 1 5",
		"use e1 ann cpu 2761 1 5",
		"use e1 ann cpu 999999999 1 5",
		"use e1 ann cpu 600 0 5",
		"use e1 ann cpu 0 0 5",
		"use e1 ann cpu 601 0 5",
		"use e1 ann cpu 600 100001 5",
		"use e1 ann cpu 0 100001 5",
		"use e1 ann cpu 0 100000 5",
		"use e1 ann cpu 600 100000 5",
		"use e1 ann cpu 0 84029 5",
		"use e1 ann cpu 2760 23 5",
		"use e1 ann cpu 2760 999999999 5",
		"use e1 ann cpu 999999999 999999999 999999999",
		"use e1 ann net 2761 0 5",
	}
	for _, line := range wrong {
		checkSteps(t, fmt.Sprintf("%q", line),
			[2]string{line, "error 1"},
			[2]string{"use e1 ann cpu 600 1 5", "took"},
			[2]string{line, "error 1"},
			[2]string{"use e1 ann cpu 600 1 5", "twice"},
			[2]string{"crash 0", "docs 0"},
			[2]string{line, "error 1"},
		)
	}
}

// TestDeskDays: a day counts from 1 on, and may lie behind its month's end.
func TestDeskDays(t *testing.T) {
	same := [][2]string{{"600 1", "599 32"}, {"601 1", "600 32"}, {"600 31", "599 62"}, {"602 1", "601 30"}, {"602 1", "600 61"}, {"2760 1", "0 84007"}, {"2760 22", "0 84028"}, {"1 1", "0 32"}}
	for _, days := range same {
		checkSteps(t, fmt.Sprint(days, " are the same"),
			[2]string{"use e1 ann cpu " + days[0] + " 5", "took"},
			[2]string{"use e1 ann cpu " + days[1] + " 5", "twice"},
			[2]string{"tick east " + days[0], "ok"},
			[2]string{"tick east " + days[1], "ok"},
			[2]string{"tick east " + days[0], "ok"},
		)
	}
	for _, days := range [][2]string{{"600 1", "600 2"}, {"0 1", "0 2"}, {"599 31", "600 1"}, {"601 29", "602 1"}, {"0 84027", "0 84028"}} {
		checkSteps(t, fmt.Sprint(days, " are not"),
			[2]string{"use e1 ann cpu " + days[0] + " 5", "took"},
			[2]string{"use e1 ann cpu " + days[1] + " 5", "clash"},
			[2]string{"tick west " + days[1], "ok"},
			[2]string{"tick west " + days[0], "error 8"},
		)
	}
}

// TestDeskTags: what is beyond the tenth byte of an ID is not asked for, when unlike tags are counted.
func TestDeskTags(t *testing.T) {
	rows := []struct {
		ids  []string
		tags int
	}{
		{[]string{"a"}, 1},
		{[]string{"a", "b", "c"}, 3},
		{[]string{"abcdefghi1", "abcdefghi2"}, 2},
		{[]string{"abcdefghij", "abcdefghij1"}, 1},
		{[]string{"abcdefghij1", "abcdefghij2", "abcdefghij34567890"}, 1},
		{[]string{"abcdefghi", "abcdefghij"}, 2},
		{[]string{"abcdefghi11", "abcdefghi21"}, 2},
		{[]string{longText(20), longText(19), longText(11), longText(10), longText(9)}, 2},
	}
	for _, row := range rows {
		var steps [][2]string
		for _, id := range row.ids {
			steps = append(steps, [2]string{"use " + id + " bob users 600 1 0", "took"})
		}
		steps = append(steps, [2]string{"tick east 601 1", "ok"}, [2]string{"tick west 601 1", "ok"}, [2]string{"close", fmt.Sprintf("bob 2020-01#0 users=%d000", row.tags)})
		checkSteps(t, fmt.Sprint(row.ids), steps...)
	}
}

func TestDeskTick(t *testing.T) {
	checkSteps(t, "ticks",
		[2]string{"tick east 600 1", "ok"},
		[2]string{"tick east 600 1", "ok"},
		[2]string{"tick east 599 31", "error 8"},
		[2]string{"tick east 600 0", "error 8"},
		[2]string{"tick east 601 0", "error 8"},
		[2]string{"tick east 2761 1", "error 8"},
		[2]string{"tick east 0 100000", "error 8"},
		[2]string{"tick east 0 100001", "error 8"},
		[2]string{"tick east 0 84029", "error 8"},
		[2]string{"tick east 999999999 999999999", "error 8"},
		[2]string{"tick west 0 1", "ok"},
		[2]string{"tick west 0 0", "error 8"},
		[2]string{"tick north 600 1", "error 6"},
		[2]string{"tick North! 600 1", "error 6"},
		[2]string{"tick eas 600 1", "error 6"},
		[2]string{"tick none 2761 0", "error 6"},
		[2]string{"tick east 600 2", "ok"},
		[2]string{"tick east 600 1", "error 8"},
		[2]string{"tick west 2760 22", "ok"},
		[2]string{"tick west 2760 23", "error 8"},
		[2]string{"crash 0", "docs 0"},
		[2]string{"tick west 2760 21", "error 8"},
		[2]string{"tick west 0 84028", "ok"},
	)
}

func TestDeskClose(t *testing.T) {
	checkSteps(t, "none, one, several",
		[2]string{"close", "-"},
		[2]string{"use a1 bob cpu 600 31 60", "took"},
		[2]string{"use a2 cyd disk 600 31 100", "took"},
		[2]string{"use a3 cyd users 600 31 60", "took"},
		[2]string{"use a4 cyd cpu 599 9 11", "took"},
		[2]string{"use a5 ann cpu 600 31 70", "took"},
		[2]string{"close", "-"},
		[2]string{"tick east 601 1", "ok"},
		[2]string{"close", "-"},
		[2]string{"tick west 600 31", "ok"},
		[2]string{"close", "cyd 2019-12#0 cpu=50"},
		[2]string{"close", "-"},
		[2]string{"tick west 601 1", "ok"},
		[2]string{"close", "ann 2020-01#0;bob 2020-01#0 cpu=2500;cyd 2020-01#0 disk=700 users=1000"},
	)
	checkSteps(t, "an amendment that is less",
		[2]string{"use a1 bob disk 600 31 200", "took"},
		[2]string{"tick east 601 1", "ok"},
		[2]string{"tick west 601 2", "ok"},
		[2]string{"close", "bob 2020-01#0 disk=1400"},
		[2]string{"use a2 bob disk 600 31 201", "took"},
		[2]string{"close", "bob 2020-01#1 disk=-395"},
		[2]string{"use a3 bob disk 600 31 199", "took"},
		[2]string{"close", "-"},
		[2]string{"net bob 600", "disk=1005"},
		[2]string{"use a4 bob cpu 600 30 1000", "took"},
		[2]string{"use a5 bob users 600 31 1", "took"},
		[2]string{"use a6 ann users 600 31 1", "took"},
		[2]string{"close", "ann 2020-01#0;bob 2020-01#2 cpu=22800 users=1000"},
		[2]string{"net bob 600", "cpu=22800,disk=1005,users=1000"},
		[2]string{"net ann 600", "-"},
		[2]string{"use a7 ann disk 600 31 1000", "took"},
		[2]string{"close", "ann 2020-01#1 disk=2000 users=1000"},
		[2]string{"net ann 600", "disk=2000,users=1000"},
	)
}

func TestDeskNet(t *testing.T) {
	checkSteps(t, "nets",
		[2]string{"net bob 600", "-"},
		[2]string{"use a1 bob cpu 600 1 10", "took"},
		[2]string{"use a2 cyd cpu 600 1 11", "took"},
		[2]string{"use a3 dan cpu 600 1 111", "took"},
		[2]string{"use a4 dan disk 600 1 1", "took"},
		[2]string{"use a5 dan users 600 1 1", "took"},
		[2]string{"use a6 dan cpu 601 1 20", "took"},
		[2]string{"net cyd 600", "-"},
		[2]string{"tick east 602 1", "ok"},
		[2]string{"tick west 602 1", "ok"},
		[2]string{"net cyd 600", "-"},
		[2]string{"close", "bob 2020-01#0;cyd 2020-01#0 cpu=50;dan 2020-01#0 cpu=5020 disk=500 users=1000;dan 2020-02#0 cpu=500"},
		[2]string{"net bob 600", "-"},
		[2]string{"net cyd 600", "cpu=50"},
		[2]string{"net dan 600", "cpu=5020,disk=500,users=1000"},
		[2]string{"net dan 601", "cpu=500"},
		[2]string{"net dan 602", "-"},
		[2]string{"net dan 0", "-"},
		[2]string{"net dan 2761", "-"},
		[2]string{"net dan 999999999", "-"},
		[2]string{"net zoe 600", "-"},
		[2]string{"net DAN 600", "-"},
		[2]string{"net da 600", "-"},
		[2]string{"net dan; 600", "-"},
	)
}

func TestDeskCrash(t *testing.T) {
	checkSteps(t, "crashes",
		[2]string{"crash 0", "docs 0"},
		[2]string{"use a1 bob cpu 600 1 60", "took"},
		[2]string{"use a2 ann cpu 600 1 60", "took"},
		[2]string{"crash 1", "docs 0"},
		[2]string{"use a1 bob cpu 600 1 60", "twice"},
		[2]string{"use a1 bob cpu 600 1 61", "clash"},
		[2]string{"tick east 601 1", "ok"},
		[2]string{"crash 999999999", "docs 0"},
		[2]string{"tick west 601 1", "ok"},
		[2]string{"crash 0", "docs 0"},
		[2]string{"close", "ann 2020-01#0;bob 2020-01#0 cpu=2500"},
		[2]string{"crash 0", "docs 2"},
		[2]string{"crash 5", "docs 2"},
		[2]string{"close", "-"},
		[2]string{"net bob 600", "cpu=2500"},
		[2]string{"use a3 bob cpu 600 31 10", "took"},
		[2]string{"crash 0", "docs 2"},
		[2]string{"close", "bob 2020-01#1 cpu=500"},
		[2]string{"crash 0", "docs 3"},
		[2]string{"net bob 600", "cpu=3000"},
		[2]string{"use a4 bob cpu 600 1 10", "late"},
		[2]string{"tick west 600 31", "error 8"},
		[2]string{"close", "-"},
	)
}

// TestDeskFull asks where the engine has no room: what comes is other, and what is there goes on.
func TestDeskFull(t *testing.T) {
	var windows, hours, tags [][2]string
	for i := range 16 {
		windows = append(windows, [2]string{fmt.Sprintf("use e%d a%d cpu 600 1 20", i, i), "took"})
	}
	checkSteps(t, "sixteen windows", append(windows,
		[2]string{"use x a16 cpu 600 1 20", "other"},
		[2]string{"use x a0 cpu 601 1 20", "other"},
		[2]string{"use x a0 disk 600 1 20", "other"},
		[2]string{"use x a0 cpu 600 1 20", "took"},
		[2]string{"crash 0", "docs 0"},
		[2]string{"use y a0 disk 600 1 20", "other"},
		[2]string{"tick east 601 3", "ok"},
		[2]string{"tick west 601 3", "ok"},
		[2]string{"close", "a0 2020-01#0 cpu=1500;a1 2020-01#0 cpu=500;a10 2020-01#0 cpu=500;a11 2020-01#0 cpu=500;a12 2020-01#0 cpu=500;a13 2020-01#0 cpu=500;a14 2020-01#0 cpu=500;a15 2020-01#0 cpu=500;a2 2020-01#0 cpu=500;a3 2020-01#0 cpu=500;a4 2020-01#0 cpu=500;a5 2020-01#0 cpu=500;a6 2020-01#0 cpu=500;a7 2020-01#0 cpu=500;a8 2020-01#0 cpu=500;a9 2020-01#0 cpu=500"},
		[2]string{"crash 0", "docs 16"},
		[2]string{"use y a0 disk 601 1 20", "took"},
	)...)
	for i := range 12 {
		hours = append(hours, [2]string{fmt.Sprintf("use samesamesame%d bob cpu 600 %d 20", i, i+1), "took"})
		tags = append(tags, [2]string{fmt.Sprintf("use e%d bob users 600 1 1", i), "took"})
	}
	checkSteps(t, "twelve hours", append(hours, [2]string{"use samesamesame bob cpu 600 13 20", "other"}, [2]string{"use samesamesame bob cpu 600 12 20", "took"})...)
	checkSteps(t, "twelve tags", append(tags, [2]string{"use x bob users 600 1 1", "other"}, [2]string{"use x bob cpu 600 1 1", "took"})...)
}

// TestDeskStoreFull: MaxDesk of the longest records are far from MaxBytes, so that no line of a desk finds its store full; and what the calls of its lines tell of one that is full.
func TestDeskStoreFull(t *testing.T) {
	var lines []string
	log := ""
	for i := range 30 {
		id := fmt.Sprintf("%020d", i)
		lines = append(lines, "use "+id+" "+longText(20)+" "+longText(20)+" 2760 22 999999999")
		log += logOf(batchOf(impl.Event{Id: id, Account: longText(20), Meter: longText(20), Minute: 120998880, Amount: 999999999, Tag: id[:10]}))
	}
	checkDesk(t, "the longest lines", lines, slices.Repeat([]string{"other"}, 30))
	is(t, "their log", len(log) < 3000, true)
	full, e := synced(filledLog(impl.MaxBytes)), impl.DeskEngine()
	use := impl.Event{Id: "e1", Account: "ann", Meter: "cpu", Amount: 5}
	for _, call := range []logged{batchOf(use), tickOf("east", 5), closing()} {
		is(t, "a "+call.name+" on a full store", call.keep(full, e), impl.StoreOut{Code: impl.ErrFull})
	}
	is(t, "a full store behind a crash", impl.StoreRecover(impl.StoreCrash(full, 0), e), full)
}

// anyLine draws a right line of few names, so that they meet.
func anyLine(draws *rand.Rand) string {
	account, month := []string{"ann", "bob", "cyd"}[draws.Intn(3)], 600+draws.Intn(2)
	switch draws.Intn(14) {
	case 0, 1:
		return fmt.Sprintf("tick %s %d %d", []string{"east", "west"}[draws.Intn(2)], 600+draws.Intn(2), 1+draws.Intn(2))
	case 2, 3:
		return "close"
	case 4:
		return fmt.Sprintf("net %s %d", account, month)
	case 5:
		return fmt.Sprintf("crash %d", draws.Intn(40))
	case 6:
		odd := []string{"tick north 600 1", "use e1 ann cpu 600 0 5", "use e1 Ann cpu 600 1 5", "use e2 bob ram 602 20 5", "tick east 0 84029", "tick west 2761 1", "net zoe 2761", "use e\x01 ann cpu 600 1 1"}
		return odd[draws.Intn(len(odd))]
	default:
		meter := []string{"cpu", "disk", "users"}[draws.Intn(3)]
		return fmt.Sprintf("use e%d %s %s %d %d %d", draws.Intn(30), account, meter, month, []int{1, 30, 31}[draws.Intn(3)], draws.Intn(3)*draws.Intn(300))
	}
}

// anyDesk draws right lines, some of them again. Now and then a month is over in the midst, and the next one at the end.
func anyDesk(draws *rand.Rand) []string {
	var out []string
	for range draws.Intn(25) {
		line := anyLine(draws)
		if len(out) > 0 && draws.Intn(6) == 0 {
			line = out[draws.Intn(len(out))]
		}
		out = append(out, line)
	}
	if draws.Intn(3) > 0 {
		out = slices.Insert(out, draws.Intn(len(out)+1), "tick east 601 1", "tick west 601 1", "close")
	}
	if draws.Intn(2) == 0 {
		out = append(out, "tick east 602 1", "tick west 602 1", "close")
	}
	return out
}

// TestDesksLineByLine is promise 24: each line tells a line, and the first lines tell the beginning of what all tell.
func TestDesksLineByLine(t *testing.T) {
	draws := sameDraws()
	seen := map[string]int{}
	for i := range 300 {
		lines := anyDesk(draws)
		tells := wantTells(lines)
		what := fmt.Sprint("text ", i)
		checkDesk(t, what, lines, tells)
		all := impl.DeskRun(ended(lines)).Text
		is(t, what+": a line each", strings.Count(all, "\n"), len(lines))
		for count := range len(lines) + 1 {
			ahead := impl.DeskRun(ended(lines[:count]))
			is(t, fmt.Sprint(what, ", the first ", count), ahead, impl.DeskOut{Text: ended(tells[:count])})
			is(t, fmt.Sprint(what, ", the first ", count, " begin"), strings.HasPrefix(all, ahead.Text), true)
		}
		for k, line := range lines {
			word, _, _ := strings.Cut(line, " ")
			kind, _, _ := strings.Cut(tells[k], " ")
			if strings.HasPrefix(tells[k], "error") {
				kind = tells[k]
			}
			if strings.ContainsAny(tells[k], "#=") {
				kind = "some"
			}
			seen[word+": "+kind]++
			for _, mark := range []string{";", ",", "#1", "=-"} {
				if strings.Contains(tells[k], mark) {
					seen[word+" with "+mark]++
				}
			}
		}
	}
	kinds := []string{"use: took", "use: twice", "use: clash", "use: late", "use: other", "use: error 1", "tick: ok", "tick: error 6", "tick: error 8", "close: -", "close: some", "net: -", "net: some", "crash: docs", "close with ;", "close with #1", "net with ,"}
	for _, kind := range kinds {
		is(t, "some of "+kind, seen[kind] > 0, true)
	}
}

// TestDeskFaultsOfAnyText turns, takes out and lays in bytes of right texts: Code and Line are told the same by both, and no Text beside them.
func TestDeskFaultsOfAnyText(t *testing.T) {
	draws := sameDraws()
	alphabet := " \n0195eacx-\t\x00\xff"
	wrong := 0
	for i := range 3000 {
		text := []byte(ended(anyDesk(draws)) + "close\n")
		for range draws.Intn(3) {
			place := draws.Intn(len(text))
			b := alphabet[draws.Intn(len(alphabet))]
			switch draws.Intn(3) {
			case 0:
				text[place] = b
			case 1:
				text = slices.Insert(text, place, b)
			default:
				text = append(slices.Delete(text, place, place+1), b)
			}
		}
		fault := wantFault(string(text))
		is(t, fmt.Sprintf("text %d, %q", i, text), impl.DeskFault(string(text)), fault)
		got := impl.DeskRun(string(text))
		if fault.Code != impl.OK {
			wrong++
			is(t, fmt.Sprintf("text %d, %q: run", i, text), got, fault)
			continue
		}
		is(t, fmt.Sprintf("text %d, %q: right", i, text), []any{got.Line, got.Code, strings.Count(got.Text, "\n")}, []any{int64(0), int64(impl.OK), strings.Count(string(text), "\n")})
	}
	is(t, "some are right, and some not", inside(int64(wrong), 300, 2700), true)
}

// deskPrice is what chapter 13 says that a month's use costs, reckoned from the lines alone: the sum of cpu, the greatest of disk, how many users.
func deskPrice(account string, cpu int64, disk int64, users int64) string {
	credit := int64(0)
	if account == "ann" {
		credit = 3000
	}
	costs := []int64{0, 0, 1000 * users}
	if over := cpu - 10; over > 0 {
		costs[0] = 50*min(over, 100) + 20*max(over-100, 0)
	}
	if disk > 0 {
		price := int64(5)
		if disk <= 50 {
			price = 9
		} else if disk <= 200 {
			price = 7
		}
		costs[1] = max(500, disk*price)
	}
	out := ""
	for i, meter := range []string{"cpu", "disk", "users"} {
		paid := min(credit, costs[i])
		credit -= paid
		if costs[i] > paid {
			out += fmt.Sprint(",", meter, "=", costs[i]-paid)
		}
	}
	return orDash(out)
}

// monthUse draws lines that use something on the last two days of the month 600, for these are not late when the next one begins. Their ids count on from first.
func monthUse(draws *rand.Rand, account string, first int, count int) []string {
	var lines []string
	for i := range count {
		meter := []string{"cpu", "disk", "users"}[draws.Intn(3)]
		lines = append(lines, fmt.Sprintf("use %s%d %s %s 600 %d %d", account, first+i, account, meter, 30+draws.Intn(2), draws.Intn(300)))
	}
	return lines
}

// monthCost is what the lines of a month's use come to together.
func monthCost(account string, lines []string) string {
	var cpu, disk, users int64
	for _, line := range lines {
		words := strings.Split(line, " ")
		amount, _ := strconv.ParseInt(words[6], 10, 64)
		switch words[3] {
		case "cpu":
			cpu += amount
		case "disk":
			disk = max(disk, amount)
		case "users":
			users++
		}
	}
	return deskPrice(account, cpu, disk, users)
}

// withCrashes lays crashes between lines; the places of the others are told.
func withCrashes(draws *rand.Rand, lines []string) ([]string, []int) {
	var out []string
	var places []int
	for i, line := range lines {
		if draws.Intn(2) == 0 && len(out)+len(lines)-i < 30 {
			out = append(out, fmt.Sprint("crash ", draws.Intn(100)))
		}
		places = append(places, len(out))
		out = append(out, line)
	}
	return out, places
}

// toldOf is what a desk tells, line by line.
func toldOf(t *testing.T, lines []string) []string {
	t.Helper()
	got := impl.DeskRun(ended(lines))
	tells := strings.Split(strings.TrimSuffix(got.Text, "\n"), "\n")
	is(t, "told", []any{got.Code, len(tells)}, []any{int64(impl.OK), len(lines)})
	return tells
}

// TestDeskBillsOnce is promise 25: a month is billed when both sources say that it is over, once; what comes late is amended; however often there is a crash between.
func TestDeskBillsOnce(t *testing.T) {
	draws := sameDraws()
	amended := 0
	for i := range 300 {
		what := fmt.Sprint("month ", i)
		account := []string{"ann", "bob"}[draws.Intn(2)]
		early := monthUse(draws, account, 0, 1+draws.Intn(6))
		late := monthUse(draws, account, len(early), 1+draws.Intn(4))
		net, first, both := "net "+account+" 600", monthCost(account, early), monthCost(account, slices.Concat(early, late))
		over := []string{"close", "tick east 601 1", "close", "tick west 600 31", "close", "tick west 601 1", "close", "close", net}
		lines := slices.Concat(early, over, late, late[:1], []string{net, "close", "close", net})
		tells := toldOf(t, lines)

		bill := strings.TrimSuffix(account+" 2020-01#0 "+strings.ReplaceAll(first, ",", " "), " -")
		want := slices.Repeat([]string{"took"}, len(early))
		want = append(want, "-", "ok", "-", "ok", "-", "ok", bill, "-", first)
		want = append(want, slices.Repeat([]string{"took"}, len(late))...)
		amendment := tells[len(tells)-3]
		want = append(want, "twice", first, amendment, "-", both)
		is(t, what, tells, want)
		is(t, what+": amended, if it is another bill", strings.HasPrefix(amendment, account+" 2020-01#1 "), first != both)
		is(t, what+": else nothing is told", amendment == "-", first == both)
		if first != both {
			amended++
		}
		isCrashProof(t, what, draws, lines)
	}
	is(t, "some are amended, and some not", inside(int64(amended), 100, 290), true)
}

// isCrashProof lays crashes between lines: all other lines tell the same. How many crashes there were is told.
func isCrashProof(t *testing.T, what string, draws *rand.Rand, lines []string) int {
	t.Helper()
	with, places := withCrashes(draws, lines)
	tells, crashed := toldOf(t, lines), toldOf(t, with)
	for k, place := range places {
		is(t, fmt.Sprint(what, ", line ", k, " behind crashes"), crashed[place], tells[k])
	}
	return len(with) - len(lines)
}

func TestDeskCrashesChangeNothing(t *testing.T) {
	draws := sameDraws()
	crashes := 0
	for i := range 200 {
		lines := slices.DeleteFunc(anyDesk(draws), func(line string) bool { return strings.HasPrefix(line, "crash") })
		if len(lines) > 0 {
			crashes += isCrashProof(t, fmt.Sprint("text ", i), draws, lines)
		}
	}
	is(t, "some crashes", crashes > 200, true)
}

// TestDeskKeepsNothing runs texts one behind the other: none knows of another one.
func TestDeskKeepsNothing(t *testing.T) {
	text := ended([]string{"use e1 bob cpu 600 1 60", "tick east 601 1", "tick west 601 1", "close", "crash 0"})
	want := impl.DeskOut{Text: "took\nok\nok\nbob 2020-01#0 cpu=2500\ndocs 1\n"}
	for range 3 {
		is(t, "run", impl.DeskRun(text), want)
		is(t, "its fault", impl.DeskFault(text), impl.DeskOut{})
		is(t, "a wrong one between", impl.DeskRun(text+"x\n"), noLine(5))
	}
}
