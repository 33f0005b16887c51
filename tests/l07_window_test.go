package tests

import (
	"fmt"
	"maps"
	"math"
	"math/rand"
	"slices"
	"strings"
	"testing"

	"loop.example/g00562/impl"
)

// mostUsed is the greatest Sum that a Window may have.
const mostUsed = int64(1000000000000)

// firstHour is that of a month by the library's calendar.
func firstHour(month int64) int64 {
	return wantStart(month) / 60
}

// lastHour is that of a month; in the last one no minute lies behind MaxMinute.
func lastHour(month int64) int64 {
	if month == lastMonth {
		return 2016666
	}
	return firstHour(month+1) - 1
}

// someTags rise.
func someTags(count int) []string {
	var out []string
	for i := range count {
		out = append(out, fmt.Sprintf("t%03d", i))
	}
	return out
}

// hourSums are hours of a month, from its first one on, each two behind the one ahead, with these Sums.
func hourSums(month int64, sums ...int64) []impl.HourSum {
	var out []impl.HourSum
	for i, sum := range sums {
		out = append(out, impl.HourSum{Hour: firstHour(month) + 2*int64(i), Sum: sum})
	}
	return out
}

// someSums are so many, from 1 on.
func someSums(count int) []int64 {
	var out []int64
	for i := range count {
		out = append(out, int64(i)+1)
	}
	return out
}

// withHours gives a Window these Hours, and their Sum; its Most is that, too.
func withHours(w impl.Window, hours []impl.HourSum) impl.Window {
	w.Hours, w.Sum = hours, 0
	for _, h := range hours {
		w.Sum += h.Sum
	}
	w.Most = w.Sum
	return w
}

// someWindow is right; a test turns the field that it asks for.
func someWindow() impl.Window {
	return impl.Window{Account: "ann", Meter: "cpu", Month: 1, Events: 3, Sum: 12, Most: 7, Tags: []string{"s", "t"}, Hours: hourSums(1, 3, 9)}
}

// fullWindow has as many Tags and Hours as may be.
func fullWindow() impl.Window {
	w := withHours(someWindow(), hourSums(1, someSums(impl.MaxHours)...))
	w.Tags = someTags(impl.MaxTags)
	return w
}

// greatWindow has as many bytes as a Window may have.
func greatWindow() impl.Window {
	w := impl.Window{Account: longText(20), Meter: longText(20), Month: lastMonth, Events: 1000, Sum: mostUsed, Most: mostUsed}
	for i := range impl.MaxTags {
		w.Tags = append(w.Tags, longText(9)+string(rune('a'+i)))
	}
	w.Hours = hourSums(lastMonth, slices.Repeat([]int64{mostUsed / 20}, impl.MaxHours)...)
	w.Hours[5].Sum += mostUsed / 20 * 8
	return w
}

// bareWindow has as little as a Window may have.
func bareWindow() impl.Window {
	return impl.Window{Account: "a", Meter: "m", Events: 1, Hours: []impl.HourSum{{}}}
}

// keptWindow is a copy that no call can reach; none stands for an empty list, for both are the same.
func keptWindow(w impl.Window) impl.Window {
	w.Tags = append([]string(nil), w.Tags...)
	w.Hours = append([]impl.HourSum(nil), w.Hours...)
	return w
}

// textBytes lays a text of any size as PutText does.
func textBytes(text string) string {
	return nums(int64(len(text))) + text
}

// windowBytes lays a Window as chapter 8 says, whether it is right or not.
func windowBytes(w impl.Window) string {
	var out strings.Builder
	out.WriteString(textBytes(w.Account) + textBytes(w.Meter) + nums(w.Month, w.Events, w.Sum, w.Most, int64(len(w.Tags))))
	for _, tag := range w.Tags {
		out.WriteString(textBytes(tag))
	}
	out.WriteString(nums(int64(len(w.Hours))))
	for _, h := range w.Hours {
		out.WriteString(nums(h.Hour, h.Sum))
	}
	return out.String()
}

// wantValue is what a right Window becomes, by the words of chapter 6.
func wantValue(w impl.Window, agg int64) int64 {
	var peak int64
	for _, h := range w.Hours {
		peak = max(peak, h.Sum)
	}
	return map[int64]int64{1: w.Sum, 2: w.Most, 3: int64(len(w.Tags)), 4: peak}[agg]
}

// someKinds are the four kinds of aggregate, and numbers that are none.
func someKinds() []int64 {
	return append(farNumbers(), 0, 1, 2, 3, 4, 5, 6, 257, 1<<32+1)
}

// wantTags are those of both, each once.
func wantTags(a impl.Window, b impl.Window) []string {
	out := append(slices.Clone(a.Tags), b.Tags...)
	slices.Sort(out)
	return append([]string(nil), slices.Compact(out)...)
}

// wantHours are those of both, each once.
func wantHours(a impl.Window, b impl.Window) []impl.HourSum {
	sums := map[int64]int64{}
	for _, h := range append(slices.Clone(a.Hours), b.Hours...) {
		sums[h.Hour] += h.Sum
	}
	var out []impl.HourSum
	for _, hour := range slices.Sorted(maps.Keys(sums)) {
		out = append(out, impl.HourSum{Hour: hour, Sum: sums[hour]})
	}
	return out
}

// wantJoin is what two right Windows are together.
func wantJoin(a impl.Window, b impl.Window) impl.WindowOut {
	if a.Account != b.Account || a.Meter != b.Meter || a.Month != b.Month {
		return impl.WindowOut{Code: impl.ErrState}
	}
	w := impl.Window{Account: a.Account, Meter: a.Meter, Month: a.Month, Events: a.Events + b.Events, Sum: a.Sum + b.Sum, Most: max(a.Most, b.Most)}
	w.Tags, w.Hours = wantTags(a, b), wantHours(a, b)
	if w.Events > 1000 || w.Sum > mostUsed || len(w.Tags) > 12 || len(w.Hours) > 12 {
		return impl.WindowOut{Code: impl.ErrFull}
	}
	return impl.WindowOut{Window: w}
}

// isJoined holds an answer against what is asked for: what comes out must be right.
func isJoined(t *testing.T, what string, got impl.WindowOut, want impl.WindowOut) {
	t.Helper()
	is(t, what, impl.WindowOut{Window: keptWindow(got.Window), Code: got.Code}, want)
	is(t, what+": right", impl.WindowRight(got.Window), want.Code == impl.OK)
}

// checkJoin asks WindowJoin of two, either way: promise 12.
func checkJoin(t *testing.T, what string, a impl.Window, b impl.Window, want impl.WindowOut) {
	t.Helper()
	keptA, keptB := keptWindow(a), keptWindow(b)
	isJoined(t, what, impl.WindowJoin(a, b), want)
	isJoined(t, what+", the other way", impl.WindowJoin(b, a), want)
	is(t, what+": the one is left as it was", keptWindow(a), keptA)
	is(t, what+": the other one is left as it was", keptWindow(b), keptB)
}

// checkJoinCode asks WindowJoin of two that can't be joined.
func checkJoinCode(t *testing.T, what string, a impl.Window, b impl.Window, code int64) {
	t.Helper()
	checkJoin(t, what, a, b, impl.WindowOut{Code: code})
}

// checkAdd asks WindowAdd of a right Window and a right Event.
func checkAdd(t *testing.T, what string, w impl.Window, e impl.Event) impl.WindowOut {
	t.Helper()
	kept := keptWindow(w)
	got := impl.WindowAdd(w, e)
	isJoined(t, what, got, wantJoin(kept, wantWindow(e)))
	is(t, what+": the window is left as it was", keptWindow(w), kept)
	return got
}

// eventIn is a right Event that a right Window takes, if it is not full.
func eventIn(w impl.Window) impl.Event {
	return impl.Event{Id: "e", Account: w.Account, Meter: w.Meter, Minute: wantStart(w.Month) + 61, Amount: 5, Tag: "t"}
}

// checkRightWindow asks all calls that take a Window, of one that is right: promise 13.
func checkRightWindow(t *testing.T, what string, w impl.Window) {
	t.Helper()
	kept := keptWindow(w)
	is(t, what+" is right", impl.WindowRight(w), true)
	text := impl.WindowBytes(w)
	is(t, what+": its bytes", text, windowBytes(kept))
	isJoined(t, what+" back", impl.WindowRead(text), impl.WindowOut{Window: kept})
	for _, agg := range someKinds() {
		is(t, fmt.Sprint(what, ": its value by ", agg), impl.ValueOf(w, agg), wantValue(kept, agg))
	}
	checkJoin(t, what+" with itself", w, kept, wantJoin(kept, kept))
	checkAdd(t, what+": an event more", w, eventIn(w))
	is(t, what+" is left as it was", keptWindow(w), kept)
}

// checkWrongWindow asks all calls that take a Window, of one that is not right.
func checkWrongWindow(t *testing.T, what string, w impl.Window) {
	t.Helper()
	kept := keptWindow(w)
	is(t, what+" is not right", impl.WindowRight(w), false)
	is(t, what+" has no bytes", impl.WindowBytes(w), "")
	checkNoWindow(t, what+" read", windowBytes(kept))
	for _, agg := range someKinds() {
		is(t, fmt.Sprint(what, ": no value by ", agg), impl.ValueOf(w, agg), int64(0))
	}
	checkJoinCode(t, what+" with itself", w, kept, impl.ErrForm)
	checkJoinCode(t, what+" with a right one", w, someWindow(), impl.ErrForm)
	checkJoinCode(t, what+" with the zero one", w, impl.Window{}, impl.ErrForm)
	is(t, what+": an event more", impl.WindowAdd(w, eventOf("e1")), impl.WindowOut{Code: impl.ErrForm})
	is(t, what+": what is no event", impl.WindowAdd(w, impl.Event{}), impl.WindowOut{Code: impl.ErrForm})
	is(t, what+" is left as it was", keptWindow(w), kept)
}

func checkWindow(t *testing.T, what string, w impl.Window, right bool) {
	t.Helper()
	if right {
		checkRightWindow(t, what, w)
	} else {
		checkWrongWindow(t, what, w)
	}
}

// checkNoWindow asks WindowRead of bytes that no right Window has: none may stand beside the code.
func checkNoWindow(t *testing.T, what string, text string) {
	t.Helper()
	code := int64(impl.ErrSyntax)
	if len(text) > impl.MaxBytes {
		code = impl.ErrSize
	}
	is(t, what, impl.WindowRead(text), impl.WindowOut{Code: code})
}

// wantWindow is the one of a right Event alone.
func wantWindow(e impl.Event) impl.Window {
	start := givenDay(e.Minute / 1440)
	w := impl.Window{Account: e.Account, Meter: e.Meter, Month: int64(start.Year()-1970)*12 + int64(start.Month()) - 1}
	w.Events, w.Sum, w.Most = 1, e.Amount, e.Amount
	if e.Tag != "" {
		w.Tags = []string{e.Tag}
	}
	w.Hours = []impl.HourSum{{Hour: e.Minute / 60, Sum: e.Amount}}
	return w
}

func TestWindowWords(t *testing.T) {
	is(t, "limits", []int64{impl.MaxTags, impl.MaxHours}, []int64{12, 12})
}

// TestWindowByHand writes each number and each byte out.
func TestWindowByHand(t *testing.T) {
	e := impl.Event{Id: "e1", Account: "ann", Meter: "cpu", Minute: 44640, Amount: 100, Tag: "b"}
	f := impl.Event{Id: "e2", Account: "ann", Meter: "cpu", Minute: 44759, Amount: 30, Tag: "a"}
	g := impl.Event{Id: "e3", Account: "ann", Meter: "cpu", Minute: 44699, Amount: 1}
	of := impl.WindowOf(e)
	is(t, "of one", of, impl.Window{Account: "ann", Meter: "cpu", Month: 1, Events: 1, Sum: 100, Most: 100, Tags: []string{"b"}, Hours: []impl.HourSum{{Hour: 744, Sum: 100}}})
	w := impl.WindowAdd(impl.WindowAdd(of, f).Window, g)
	want := impl.Window{Account: "ann", Meter: "cpu", Month: 1, Events: 3, Sum: 131, Most: 100, Tags: []string{"a", "b"}, Hours: []impl.HourSum{{Hour: 744, Sum: 101}, {Hour: 745, Sum: 30}}}
	is(t, "of three", w, impl.WindowOut{Window: want})
	text := "\x06ann\x06cpu\x02\x06\x86\x02\xc8\x01\x04\x02a\x02b\x04\xd0\x0b\xca\x01\xd2\x0b\x3c"
	is(t, "its bytes", impl.WindowBytes(want), text)
	is(t, "back", impl.WindowRead(text), impl.WindowOut{Window: want})
	is(t, "its sum", impl.ValueOf(want, impl.AgSum), int64(131))
	is(t, "its greatest", impl.ValueOf(want, impl.AgMax), int64(100))
	is(t, "its tags", impl.ValueOf(want, impl.AgTags), int64(2))
	is(t, "its peak", impl.ValueOf(want, impl.AgPeak), int64(101))
	checkWrongWindow(t, "the zero one", impl.Window{})
	checkRightWindow(t, "the barest", bareWindow())
	checkRightWindow(t, "the fullest", fullWindow())
	checkRightWindow(t, "the greatest", greatWindow())
}

func TestWindowNames(t *testing.T) {
	for _, name := range wrongNames() {
		w := someWindow()
		w.Account = name
		checkWrongWindow(t, "the account "+told(name), w)
		w = someWindow()
		w.Meter = name
		checkWrongWindow(t, "the meter "+told(name), w)
	}
	for _, name := range []string{"a", "z", "a0", "a_", "z9_z", longText(20)} {
		w := someWindow()
		w.Account = name
		checkRightWindow(t, "the account "+name, w)
		w = someWindow()
		w.Meter = name
		checkRightWindow(t, "the meter "+name, w)
	}
}

func TestWindowMonths(t *testing.T) {
	for _, month := range append(farNumbers(), 0, 1, 2759, lastMonth, 2761, 2772) {
		w := someWindow()
		w.Month = month
		if inside(month, 0, lastMonth) {
			w.Hours = hourSums(month, 3, 9)
		}
		checkWindow(t, fmt.Sprint("the month ", month), w, inside(month, 0, lastMonth))
	}
	behind := someWindow()
	behind.Month, behind.Hours = 2761, hourSums(2761, 3, 9)
	checkWrongWindow(t, "the month 2761 with hours of it", behind)
}

func TestWindowEvents(t *testing.T) {
	for _, events := range append(farNumbers(), 0, 1, 2, 999, 1000, 1001, 1<<32+1) {
		w := someWindow()
		w.Events = events
		checkWindow(t, fmt.Sprint(events, " events"), w, inside(events, 1, 1000))
	}
}

// TestWindowSums turns the Sum, and with it what must be it.
func TestWindowSums(t *testing.T) {
	for _, sum := range append(farNumbers(), 0, 1, mostUsed-1, mostUsed, mostUsed+1) {
		w := someWindow()
		w.Sum, w.Most, w.Hours = sum, 0, hourSums(1, sum)
		checkWindow(t, fmt.Sprint("a Sum of ", sum), w, inside(sum, 0, mostUsed))
		w.Hours = hourSums(1, 0, sum)
		checkWindow(t, fmt.Sprint("a Sum of ", sum, " in the second hour"), w, inside(sum, 0, mostUsed))
		w.Most = sum
		checkWindow(t, fmt.Sprint("a Sum and a Most of ", sum), w, inside(sum, 0, mostUsed))
		w = someWindow()
		w.Sum = sum
		checkWrongWindow(t, fmt.Sprint("a Sum of ", sum, " alone"), w)
	}
}

func TestWindowMost(t *testing.T) {
	for _, sum := range []int64{0, 1, 12, mostUsed} {
		for _, most := range append(farNumbers(), 0, 1, sum-1, sum, sum+1) {
			w := someWindow()
			w.Sum, w.Most, w.Hours = sum, most, hourSums(1, sum)
			checkWindow(t, fmt.Sprint("a Most of ", most, " of ", sum), w, inside(most, 0, sum))
		}
	}
}

func TestWindowTagCounts(t *testing.T) {
	for _, count := range []int{0, 1, 2, 11, impl.MaxTags, impl.MaxTags + 1, 14, impl.MaxList, impl.MaxList + 1, 2000} {
		w := someWindow()
		w.Tags = someTags(count)
		checkWindow(t, fmt.Sprint(count, " tags"), w, count <= impl.MaxTags)
	}
	w := someWindow()
	w.Tags = []string{}
	checkRightWindow(t, "an empty list of tags", w)
}

func TestWindowTagsRise(t *testing.T) {
	right := [][]string{{"a", "b"}, {"a", "aa"}, {"!", "~"}, {"A", "a"}, {"a0", "aA", "a_", "aa"}, {"t1", "t10", "t2"}, {longText(9), longText(10)}}
	for _, tags := range right {
		w := someWindow()
		w.Tags = tags
		checkRightWindow(t, fmt.Sprint("tags ", tags), w)
	}
	wrong := [][]string{{"a", "a"}, {"b", "a"}, {"aa", "a"}, {"a", "A"}, {"t2", "t10"}, {"a", "b", "b"}, {"a", "a", "b"}, {"a", "c", "b"}, {"b", "a", "c"}, {"a", "b", "a"}}
	for _, tags := range wrong {
		w := someWindow()
		w.Tags = tags
		checkWrongWindow(t, fmt.Sprint("tags ", tags), w)
	}
	for place := 1; place < impl.MaxTags; place++ {
		w := fullWindow()
		w.Tags[place] = w.Tags[place-1]
		checkWrongWindow(t, fmt.Sprint("tags alike at ", place), w)
		w = fullWindow()
		w.Tags[place], w.Tags[place-1] = w.Tags[place-1], w.Tags[place]
		checkWrongWindow(t, fmt.Sprint("tags that fall at ", place), w)
	}
}

// TestWindowWrongTags lays tags that no right Event has, in a place where they rise.
func TestWindowWrongTags(t *testing.T) {
	wrong := []string{longText(11), longText(impl.MaxBytes), longText(impl.MaxBytes + 1), "x y", "x ", "x\x00", "x\n", "x\x1f", "x\x7f", "x\x80", "x\xff", "xé", "x€", "\x7f", "\xff"}
	for _, tag := range wrong {
		w := someWindow()
		w.Tags = []string{tag}
		checkWrongWindow(t, "alone "+told(tag), w)
		w.Tags = []string{"s", "t", tag}
		checkWrongWindow(t, "the last one "+told(tag), w)
	}
	w := someWindow()
	w.Tags = []string{""}
	checkWrongWindow(t, "an empty tag alone", w)
	w.Tags = []string{"", "t"}
	checkWrongWindow(t, "an empty tag ahead", w)
	w.Tags = []string{"s", ""}
	checkWrongWindow(t, "an empty tag behind", w)
	for b := range 256 {
		for _, tag := range []string{string([]byte{byte(b)}), longText(9) + string([]byte{byte(b)})} {
			w.Tags = []string{tag}
			checkWindow(t, "a tag "+told(tag), w, b >= 33 && b <= 126)
		}
	}
	for size := 1; size < 13; size++ {
		w.Tags = []string{longText(size)}
		checkWindow(t, fmt.Sprint("a tag of ", size, " bytes"), w, size <= 10)
	}
}

func TestWindowHourCounts(t *testing.T) {
	for _, count := range []int{0, 1, 2, 11, impl.MaxHours, impl.MaxHours + 1, 14, 300} {
		w := withHours(someWindow(), hourSums(1, someSums(count)...))
		checkWindow(t, fmt.Sprint(count, " hours"), w, inside(int64(count), 1, impl.MaxHours))
	}
	for _, count := range []int{impl.MaxList, impl.MaxList + 1, 2000} {
		w := withHours(someWindow(), slices.Repeat(hourSums(1, 1), count))
		checkWrongWindow(t, fmt.Sprint(count, " hours"), w)
	}
	w := withHours(someWindow(), []impl.HourSum{})
	checkWrongWindow(t, "an empty list of hours", w)
	w = withHours(someWindow(), hourSums(1, make([]int64, impl.MaxHours)...))
	checkRightWindow(t, "hours of 0", w)
	w = withHours(someWindow(), hourSums(1, make([]int64, impl.MaxHours+1)...))
	checkWrongWindow(t, "one more hour of 0", w)
}

func TestWindowHoursRise(t *testing.T) {
	for place := 1; place < impl.MaxHours; place++ {
		w := fullWindow()
		w.Hours[place].Hour = w.Hours[place-1].Hour
		checkWrongWindow(t, fmt.Sprint("hours alike at ", place), w)
		w = fullWindow()
		w.Hours[place], w.Hours[place-1] = w.Hours[place-1], w.Hours[place]
		checkWrongWindow(t, fmt.Sprint("hours that fall at ", place), w)
		w = fullWindow()
		w.Hours[place].Hour = w.Hours[place-1].Hour + 1
		checkRightWindow(t, fmt.Sprint("the next hour at ", place), w)
	}
}

// TestWindowHoursOfMonth takes months of each length, in several kinds of years, and the first and last one.
func TestWindowHoursOfMonth(t *testing.T) {
	for _, month := range []int64{0, 1, 2, 3, 11, 12, 25, 361, 1561, 2759, lastMonth} {
		first, last := firstHour(month), lastHour(month)
		hours := append(farNumbers(), first-1, first, first+1, last-1, last, last+1, first-744, last+744, 0, 2016666, 2016667, math.MaxInt64/60, math.MaxInt64/60+1)
		for _, hour := range hours {
			w := someWindow()
			w.Month, w.Hours = month, []impl.HourSum{{Hour: hour, Sum: 12}}
			checkWindow(t, fmt.Sprint("the hour ", hour, " of ", month), w, inside(hour, first, last))
		}
		w := someWindow()
		w.Month, w.Hours = month, []impl.HourSum{{Hour: first, Sum: 3}, {Hour: last, Sum: 9}}
		checkRightWindow(t, fmt.Sprint("the first and the last hour of ", month), w)
		w.Hours = []impl.HourSum{{Hour: first - 1, Sum: 3}, {Hour: last, Sum: 9}}
		checkWrongWindow(t, fmt.Sprint("the hour ahead and the last one of ", month), w)
		w.Hours = []impl.HourSum{{Hour: first, Sum: 3}, {Hour: last + 1, Sum: 9}}
		checkWrongWindow(t, fmt.Sprint("the first hour and the one behind of ", month), w)
	}
}

// TestWindowHoursWrapRound lays hours whose minutes, were they reckoned with a wrap-round, would be of the month.
func TestWindowHoursWrapRound(t *testing.T) {
	for _, hour := range []int64{1 << 62, -1 << 62, 1<<62 + 1, 1<<62 + 744, -1<<62 + 744, 1<<60 + 744, 1<<61 + 744} {
		for _, month := range []int64{0, 1} {
			w := someWindow()
			w.Month, w.Hours = month, []impl.HourSum{{Hour: hour, Sum: 12}}
			checkWrongWindow(t, fmt.Sprint("the hour ", hour, " of ", month), w)
		}
	}
}

func TestWindowHourSums(t *testing.T) {
	for place := range impl.MaxHours {
		w := fullWindow()
		w.Hours[place].Sum++
		checkWrongWindow(t, fmt.Sprint("one more at ", place), w)
		w = fullWindow()
		w.Hours[place].Sum--
		checkWrongWindow(t, fmt.Sprint("one less at ", place), w)
		w = fullWindow()
		w.Sum -= w.Hours[place].Sum
		w.Most, w.Hours[place].Sum = 0, 0
		checkRightWindow(t, fmt.Sprint("nothing at ", place), w)
		for _, n := range farNumbers() {
			w.Hours[place].Sum = n
			checkWrongWindow(t, fmt.Sprint("a sum of ", n, " at ", place), w)
		}
	}
	below := someWindow()
	below.Hours = hourSums(1, -1, 13)
	checkWrongWindow(t, "a first sum of -1 that is made up for", below)
	below.Hours = hourSums(1, 13, -1)
	checkWrongWindow(t, "a last sum of -1 that is made up for", below)
	below.Hours = hourSums(1, 6, -1, 7)
	checkWrongWindow(t, "a sum of -1 between that is made up for", below)
	zero := someWindow()
	zero.Sum, zero.Most, zero.Hours = 0, 0, hourSums(1, 5, -5)
	checkWrongWindow(t, "sums that are 0 together", zero)
}

// TestWindowSumsRunOver lays Sums that, were they added with a wrap-round, would be the Sum.
func TestWindowSumsRunOver(t *testing.T) {
	most := int64(math.MaxInt64)
	rows := [][]int64{
		{most, most, 14}, {14, most, most}, {most, 14, most}, {most - 3, most, 17}, {1 << 62, 1 << 62, 1 << 62, 1 << 62, 12}, {12, 1 << 62, 1 << 62, 1 << 62, 1 << 62},
		{most, most, most, most, 16}, {most, math.MinInt64, 13}, {math.MinInt64, math.MinInt64, 12}, {most, -most, 12}, {1 << 63 / 2, 1 << 63 / 2, math.MinInt64, 12},
	}
	for _, row := range rows {
		w := someWindow()
		w.Hours = hourSums(1, row...)
		checkWrongWindow(t, fmt.Sprint("sums ", row), w)
		w.Sum, w.Most = most, 0
		checkWrongWindow(t, fmt.Sprint("the greatest Sum and sums ", row), w)
		w.Sum = math.MinInt64
		checkWrongWindow(t, fmt.Sprint("the least Sum and sums ", row), w)
	}
}

func TestWindowOf(t *testing.T) {
	for _, minute := range []int64{0, 59, 60, 44639, 44640, 84959, 84960, 120968639, 120968640, 120999959, 120999960, impl.MaxMinute} {
		for _, amount := range []int64{0, 1, 1000000000} {
			for _, tag := range []string{"", "t", "~!", longText(10)} {
				e := someEvent()
				e.Minute, e.Amount, e.Tag = minute, amount, tag
				got := impl.WindowOf(e)
				is(t, "of "+told(e), keptWindow(got), wantWindow(e))
				checkRightWindow(t, "the window of "+told(e), got)
			}
		}
	}
	draws := sameDraws()
	for range 300 {
		e := anyEvent(draws)
		is(t, "of "+told(e), keptWindow(impl.WindowOf(e)), wantWindow(e))
		checkRightWindow(t, "the window of "+told(e), impl.WindowOf(e))
	}
}

// wrongEvents have one field each that is not right.
func wrongEvents() []impl.Event {
	out := []impl.Event{{}, withField("Tag", longText(11)), withField("Tag", "a b"), withField("Tag", "\x80"), withField("Tag", longText(impl.MaxBytes+1))}
	for _, id := range wrongIds() {
		out = append(out, withField("Id", id))
	}
	for _, name := range wrongNames() {
		out = append(out, withField("Account", name), withField("Meter", name))
	}
	for _, n := range append(farNumbers(), 1000000001) {
		late, much := someEvent(), someEvent()
		late.Minute, much.Amount = n, n
		out = append(out, late, much)
	}
	late := someEvent()
	late.Minute = impl.MaxMinute + 1
	return append(out, late)
}

func TestWindowOfWrongEvents(t *testing.T) {
	for _, e := range wrongEvents() {
		is(t, "of "+told(e), impl.WindowOf(e), impl.Window{})
		for _, w := range []impl.Window{someWindow(), fullWindow(), impl.WindowOf(someEvent()), {}, {Account: "ann"}} {
			is(t, "added "+told(e), impl.WindowAdd(w, e), impl.WindowOut{Code: impl.ErrForm})
		}
	}
}

// otherWindows are right, and each is of another Account, Meter or Month than someWindow.
func otherWindows() []impl.Window {
	out := []impl.Window{someWindow(), someWindow(), someWindow(), someWindow(), someWindow(), someWindow(), someWindow(), bareWindow()}
	out[0].Account = "bob"
	out[1].Account = "an"
	out[2].Meter = "disk"
	out[3].Meter = "cpu_"
	out[4].Month, out[4].Hours = 0, hourSums(0, 3, 9)
	out[5].Month, out[5].Hours = 2, hourSums(2, 3, 9)
	out[6].Account, out[6].Meter = "cpu", "ann"
	return out
}

func TestWindowJoinOthers(t *testing.T) {
	for _, other := range otherWindows() {
		checkRightWindow(t, "the other one", other)
		checkJoinCode(t, "joined with "+told(other), someWindow(), other, impl.ErrState)
		is(t, "added to "+told(other), impl.WindowAdd(other, eventIn(someWindow())), impl.WindowOut{Code: impl.ErrState})
		is(t, "added of "+told(other), impl.WindowAdd(someWindow(), eventIn(other)), impl.WindowOut{Code: impl.ErrState})
	}
}

// TestWindowJoinOrder asks which fault is told first.
func TestWindowJoinOrder(t *testing.T) {
	full := fullWindow()
	full.Events = 1000
	wrong := someWindow()
	wrong.Events = 1001
	for _, other := range otherWindows() {
		other.Events = 1000
		checkJoinCode(t, "another one's, and full", full, other, impl.ErrState)
		other.Events = 1001
		checkJoinCode(t, "another one's, not right, and full", full, other, impl.ErrForm)
		checkJoinCode(t, "another one's, both not right", wrong, other, impl.ErrForm)
	}
	checkJoinCode(t, "full, and not right", full, wrong, impl.ErrForm)
	checkJoinCode(t, "both not right", wrong, wrong, impl.ErrForm)
	checkJoinCode(t, "the zero one", full, impl.Window{}, impl.ErrForm)
	checkJoinCode(t, "full alone", full, someWindow(), impl.ErrFull)
	e := eventIn(full)
	e.Account = "bob"
	is(t, "another one's event, and full", impl.WindowAdd(full, e), impl.WindowOut{Code: impl.ErrState})
	e.Amount = -1
	is(t, "another one's event, not right, and full", impl.WindowAdd(full, e), impl.WindowOut{Code: impl.ErrForm})
	is(t, "an event to what is not right, of another one", impl.WindowAdd(wrong, withField("Account", "bob")), impl.WindowOut{Code: impl.ErrForm})
}

func TestWindowJoinByHand(t *testing.T) {
	a := impl.Window{Account: "ann", Meter: "cpu", Events: 2, Sum: 12, Most: 7, Tags: []string{"b", "d", "e"}, Hours: []impl.HourSum{{Hour: 1, Sum: 3}, {Hour: 4, Sum: 9}}}
	b := impl.Window{Account: "ann", Meter: "cpu", Events: 5, Sum: 30, Most: 6, Tags: []string{"a", "b", "c", "f"}, Hours: []impl.HourSum{{Hour: 0, Sum: 5}, {Hour: 4, Sum: 24}, {Hour: 7, Sum: 1}}}
	want := impl.Window{Account: "ann", Meter: "cpu", Events: 7, Sum: 42, Most: 7, Tags: []string{"a", "b", "c", "d", "e", "f"}, Hours: []impl.HourSum{{Hour: 0, Sum: 5}, {Hour: 1, Sum: 3}, {Hour: 4, Sum: 33}, {Hour: 7, Sum: 1}}}
	checkJoin(t, "two", a, b, impl.WindowOut{Window: want})
	a.Tags, want.Tags = nil, b.Tags
	checkJoin(t, "one without tags", a, b, impl.WindowOut{Window: want})
	b.Tags, want.Tags = nil, nil
	checkJoin(t, "both without tags", a, b, impl.WindowOut{Window: want})
	want.Events, want.Sum, want.Hours = 4, 24, []impl.HourSum{{Hour: 1, Sum: 6}, {Hour: 4, Sum: 18}}
	checkJoin(t, "one with itself", a, a, impl.WindowOut{Window: want})
}

// checkFull asks WindowJoin of two that are just as much as may be, or more.
func checkFull(t *testing.T, what string, a impl.Window, b impl.Window, full bool) {
	t.Helper()
	checkJoin(t, what, a, b, wantJoin(a, b))
	is(t, what+": full", impl.WindowJoin(a, b).Code == impl.ErrFull, full)
}

// TestWindowJoinFullNumbers goes from just as much as may be to one more.
func TestWindowJoinFullNumbers(t *testing.T) {
	for _, events := range [][2]int64{{1, 999}, {500, 500}, {1, 1000}, {500, 501}, {1000, 1000}} {
		a, b := someWindow(), someWindow()
		a.Events, b.Events = events[0], events[1]
		checkFull(t, fmt.Sprint("events ", events), a, b, events[0]+events[1] > 1000)
	}
	for _, sums := range [][2]int64{{0, mostUsed}, {1, mostUsed - 1}, {mostUsed / 2, mostUsed / 2}, {1, mostUsed}, {mostUsed / 2, mostUsed/2 + 1}, {mostUsed, mostUsed}} {
		a := withHours(someWindow(), hourSums(1, sums[0]))
		b := withHours(someWindow(), hourSums(1, 0, sums[1]))
		checkFull(t, fmt.Sprint("sums ", sums), a, b, sums[0]+sums[1] > mostUsed)
	}
}

// withTags gives a Window these Tags.
func withTags(w impl.Window, tags []string) impl.Window {
	w.Tags = tags
	return w
}

// TestWindowJoinFullTags cuts as many tags as may be in two, and lays one more.
func TestWindowJoinFullTags(t *testing.T) {
	tags := someTags(impl.MaxTags + 1)
	all := withTags(someWindow(), tags[:impl.MaxTags])
	for count := 1; count <= impl.MaxTags; count++ {
		a := withTags(someWindow(), tags[:count])
		b := withTags(someWindow(), tags[count:impl.MaxTags])
		checkFull(t, fmt.Sprint("tags cut at ", count), a, b, false)
		is(t, "just as many tags", impl.WindowJoin(a, b).Window.Tags, tags[:impl.MaxTags])
		checkFull(t, fmt.Sprint("tags that are there, up to ", count), all, a, false)
		checkFull(t, fmt.Sprint("one tag more, cut at ", count), a, withTags(someWindow(), tags[count:]), true)
	}
	checkFull(t, "no tag more", all, withTags(someWindow(), nil), false)
	checkFull(t, "one tag more, ahead of all", all, withTags(someWindow(), []string{"!"}), true)
}

// TestWindowJoinFullHours cuts as many hours as may be in two, and lays one more.
func TestWindowJoinFullHours(t *testing.T) {
	hours := hourSums(1, someSums(impl.MaxHours+1)...)
	all := withHours(someWindow(), hours[:impl.MaxHours])
	for count := 1; count < impl.MaxHours; count++ {
		a := withHours(someWindow(), hours[:count])
		b := withHours(someWindow(), hours[count:impl.MaxHours])
		checkFull(t, fmt.Sprint("hours cut at ", count), a, b, false)
		is(t, "just as many hours", impl.WindowJoin(a, b).Window.Hours, hours[:impl.MaxHours])
		checkFull(t, fmt.Sprint("hours that are there, up to ", count), all, a, false)
		checkFull(t, fmt.Sprint("one hour more, cut at ", count), a, withHours(someWindow(), hours[count:]), true)
	}
	checkFull(t, "one hour more", all, withHours(someWindow(), []impl.HourSum{{Hour: lastHour(1)}}), true)
}

func TestWindowAddFull(t *testing.T) {
	w := fullWindow()
	e := eventIn(w)
	e.Tag, e.Minute = "", w.Hours[3].Hour*60+59
	is(t, "no tag, an hour that is there", checkAdd(t, "added", w, e).Code, int64(impl.OK))
	e.Tag = w.Tags[5]
	is(t, "a tag that is there", checkAdd(t, "added", w, e).Code, int64(impl.OK))
	e.Tag = "new"
	is(t, "a tag too many", checkAdd(t, "added", w, e).Code, int64(impl.ErrFull))
	e.Tag, e.Minute = "", w.Hours[3].Hour*60+60
	is(t, "an hour too many", checkAdd(t, "added", w, e).Code, int64(impl.ErrFull))
	e.Amount = 0
	is(t, "an hour of nothing too many", checkAdd(t, "added", w, e).Code, int64(impl.ErrFull))
	e.Minute = w.Hours[0].Hour * 60
	w.Events = 999
	is(t, "the last event", checkAdd(t, "added", w, e).Code, int64(impl.OK))
	w.Events = 1000
	is(t, "an event too many", checkAdd(t, "added", w, e).Code, int64(impl.ErrFull))
	w = withHours(someWindow(), hourSums(1, mostUsed-1000000000))
	e.Amount = 1000000000
	is(t, "just so much", checkAdd(t, "added", w, e).Code, int64(impl.OK))
	w = withHours(someWindow(), hourSums(1, mostUsed-999999999))
	is(t, "one too much", checkAdd(t, "added", w, e).Code, int64(impl.ErrFull))
}

// TestWindowAddUpToFull adds events of one hour until there are as many as may be.
func TestWindowAddUpToFull(t *testing.T) {
	e := eventIn(someWindow())
	e.Amount = 1000000000
	w := impl.WindowOf(e)
	for events := int64(2); events <= 1000; events++ {
		got := impl.WindowAdd(w, e)
		want := impl.Window{Account: "ann", Meter: "cpu", Month: 1, Events: events, Sum: events * 1000000000, Most: 1000000000, Tags: []string{"t"}, Hours: []impl.HourSum{{Hour: 745, Sum: events * 1000000000}}}
		is(t, fmt.Sprint(events, " events"), got, impl.WindowOut{Window: want})
		w = got.Window
	}
	is(t, "as much as may be", w.Sum, mostUsed)
	is(t, "one more", impl.WindowAdd(w, e), impl.WindowOut{Code: impl.ErrFull})
}

// anyWindow draws a right one of a month, with tags and hours that others of it are likely to have, too.
func anyWindow(draws *rand.Rand, month int64, most int64) impl.Window {
	w := impl.Window{Account: "ann", Meter: "cpu", Month: month, Events: 1 + draws.Int63n(500)}
	for _, tag := range someTags(14) {
		if draws.Intn(4) == 0 && len(w.Tags) < impl.MaxTags {
			w.Tags = append(w.Tags, tag)
		}
	}
	for hour := firstHour(month); hour < firstHour(month)+14; hour++ {
		if draws.Intn(3) == 0 && len(w.Hours) < impl.MaxHours {
			w.Hours = append(w.Hours, impl.HourSum{Hour: hour, Sum: draws.Int63n(most)})
		}
	}
	if len(w.Hours) == 0 {
		w.Hours = []impl.HourSum{{Hour: lastHour(month), Sum: draws.Int63n(most)}}
	}
	w = withHours(w, w.Hours)
	w.Most = draws.Int63n(w.Sum + 1)
	return w
}

// joinThree joins two, and that and a third one, or tells the code of the first that can't be.
func joinThree(a impl.Window, b impl.Window, c impl.Window) impl.WindowOut {
	two := impl.WindowJoin(a, b)
	if two.Code != impl.OK {
		return two
	}
	return impl.WindowJoin(two.Window, c)
}

// checkThree is promise 12 of three: whichever two are joined first, and in whatever order.
func checkThree(t *testing.T, what string, l [3]impl.Window) impl.WindowOut {
	t.Helper()
	want := joinThree(l[0], l[1], l[2])
	for _, order := range [][3]int{{0, 1, 2}, {0, 2, 1}, {1, 0, 2}, {1, 2, 0}, {2, 0, 1}, {2, 1, 0}} {
		a, b, c := l[order[0]], l[order[1]], l[order[2]]
		is(t, fmt.Sprint(what, " in the order ", order), joinThree(a, b, c), want)
		behind := impl.WindowJoin(b, c)
		if behind.Code == impl.OK {
			behind = impl.WindowJoin(a, behind.Window)
		}
		is(t, fmt.Sprint(what, " from behind in the order ", order), behind, want)
	}
	return want
}

// TestWindowsJoinEitherWay is promise 12 of drawn windows.
func TestWindowsJoinEitherWay(t *testing.T) {
	draws := sameDraws()
	codes := map[int64]int{}
	for i := range 1500 {
		month := []int64{0, 1, 25, lastMonth}[draws.Intn(4)]
		most := []int64{2, 100, mostUsed / 30}[draws.Intn(3)]
		l := [3]impl.Window{anyWindow(draws, month, most), anyWindow(draws, month, most), anyWindow(draws, month, most)}
		checkJoin(t, fmt.Sprint("two of ", i), l[0], l[1], wantJoin(l[0], l[1]))
		codes[checkThree(t, fmt.Sprint("three of ", i), l).Code]++
	}
	is(t, "some were joined, and some were too much", []bool{codes[impl.OK] > 100, codes[impl.ErrFull] > 100, len(codes) == 2}, []bool{true, true, true})
}

// TestWindowsJoinThreeCodes lays a code where only the third one is too much, or of another account.
func TestWindowsJoinThreeCodes(t *testing.T) {
	l := [3]impl.Window{someWindow(), someWindow(), someWindow()}
	l[0].Events, l[1].Events, l[2].Events = 333, 333, 334
	is(t, "as many events as may be", checkThree(t, "events", l).Code, int64(impl.OK))
	l[2].Events = 335
	is(t, "one event more", checkThree(t, "events", l).Code, int64(impl.ErrFull))
	l[2].Events = 0
	is(t, "one that is not right", joinThree(l[0], l[1], l[2]).Code, int64(impl.ErrForm))
	for _, other := range otherWindows() {
		other.Events = 1
		is(t, "the third is another one's", joinThree(l[0], l[1], other), impl.WindowOut{Code: impl.ErrState})
		is(t, "the first is another one's", joinThree(other, l[0], l[1]), impl.WindowOut{Code: impl.ErrState})
		is(t, "the second is another one's", joinThree(l[0], other, l[1]), impl.WindowOut{Code: impl.ErrState})
	}
}

// anyEventIn draws a right one of someWindow's account, meter and month.
func anyEventIn(draws *rand.Rand) impl.Event {
	e := anyEvent(draws)
	e.Account, e.Meter, e.Minute = "ann", "cpu", wantStart(1)+draws.Int63n(14*60)
	e.Tag = append(someTags(14), "", "")[draws.Intn(16)]
	return e
}

// addAll adds events, one behind the other; the first code ends it.
func addAll(events []impl.Event) impl.WindowOut {
	out := impl.WindowOut{Window: impl.WindowOf(events[0])}
	for _, e := range events[1:] {
		out = impl.WindowAdd(out.Window, e)
		if out.Code != impl.OK {
			break
		}
	}
	return out
}

// TestWindowsOfEventsInAnyOrder is promise 13 of drawn events.
func TestWindowsOfEventsInAnyOrder(t *testing.T) {
	draws := sameDraws()
	codes := map[int64]int{}
	for i := range 600 {
		e, f, w := anyEventIn(draws), anyEventIn(draws), anyWindow(draws, 1, 100)
		is(t, fmt.Sprint("two alone of ", i), impl.WindowAdd(impl.WindowOf(e), f), impl.WindowAdd(impl.WindowOf(f), e))
		ahead, behind := checkAdd(t, "the one", w, e), checkAdd(t, "the other one", w, f)
		if ahead.Code == impl.OK && behind.Code == impl.OK {
			is(t, fmt.Sprint("two to a window of ", i), checkAdd(t, "both", ahead.Window, f), checkAdd(t, "both", behind.Window, e))
		}
		var events []impl.Event
		for range 1 + draws.Intn(25) {
			events = append(events, anyEventIn(draws))
		}
		want := addAll(events)
		codes[want.Code]++
		draws.Shuffle(len(events), func(a int, b int) { events[a], events[b] = events[b], events[a] })
		is(t, fmt.Sprint("many of ", i), addAll(events), want)
	}
	is(t, "some were added, and some were too much", []bool{codes[impl.OK] > 100, codes[impl.ErrFull] > 10, len(codes) == 2}, []bool{true, true, true})
}

// TestWindowsComeBack is promise 13 of drawn windows.
func TestWindowsComeBack(t *testing.T) {
	draws := sameDraws()
	for i := range 1000 {
		w := anyWindow(draws, draws.Int63n(lastMonth+1), 1+draws.Int63n(mostUsed/14))
		names := anyNames(draws, 2)
		w.Account, w.Meter = names[0], names[1]
		checkRightWindow(t, fmt.Sprint("window ", i), w)
	}
	for tags := range impl.MaxTags + 1 {
		for hours := 1; hours <= impl.MaxHours; hours++ {
			w := withHours(someWindow(), hourSums(1, someSums(hours)...))
			w.Tags = someTags(tags)
			checkRightWindow(t, fmt.Sprint(tags, " tags and ", hours, " hours"), w)
		}
	}
}

// TestValueOf lays the greatest Sum of an hour in each place.
func TestValueOf(t *testing.T) {
	for place := range impl.MaxHours {
		w := fullWindow()
		w.Hours[place].Sum += 100
		w.Sum += 100
		w.Most = 55
		is(t, fmt.Sprint("the sum, peak at ", place), impl.ValueOf(w, 1), int64(178))
		is(t, fmt.Sprint("the greatest, peak at ", place), impl.ValueOf(w, 2), int64(55))
		is(t, fmt.Sprint("the tags, peak at ", place), impl.ValueOf(w, 3), int64(12))
		is(t, fmt.Sprint("the peak at ", place), impl.ValueOf(w, 4), int64(place)+101)
		for _, agg := range append(farNumbers(), 0, 5, 1<<32+1) {
			is(t, fmt.Sprint("by ", agg), impl.ValueOf(w, agg), int64(0))
		}
		w.Sum++
		for _, agg := range someKinds() {
			is(t, fmt.Sprint("not right, by ", agg), impl.ValueOf(w, agg), int64(0))
		}
	}
	is(t, "the peak of nothing", impl.ValueOf(bareWindow(), impl.AgPeak), int64(0))
	is(t, "no tags", impl.ValueOf(bareWindow(), impl.AgTags), int64(0))
}

func TestWindowReadEndsTooEarly(t *testing.T) {
	for _, w := range []impl.Window{bareWindow(), someWindow(), fullWindow(), greatWindow()} {
		text := impl.WindowBytes(w)
		for end := range len(text) {
			checkNoWindow(t, fmt.Sprint("the first ", end, " bytes"), text[:end])
		}
		for b := range 256 {
			checkNoWindow(t, "one byte more behind", text+string([]byte{byte(b)}))
		}
		checkNoWindow(t, "twice", text+text)
	}
	checkNoWindow(t, "the empty text", "")
	checkNoWindow(t, "a letter", "x")
}

// windowParts are the bytes of a Window of one Tag and one Hour, number by number and text by text.
func windowParts() []string {
	return []string{"\x06", "ann", "\x06", "cpu", "\x02", "\x06", "\x18", "\x0e", "\x02", "\x02", "t", "\x02", "\xd0\x0b", "\x18"}
}

// withWindowPart is the text of windowParts with one of them turned.
func withWindowPart(place int, part string) string {
	parts := windowParts()
	parts[place] = part
	return strings.Join(parts, "")
}

func TestWindowReadParts(t *testing.T) {
	want := impl.Window{Account: "ann", Meter: "cpu", Month: 1, Events: 3, Sum: 12, Most: 7, Tags: []string{"t"}, Hours: []impl.HourSum{{Hour: 744, Sum: 12}}}
	is(t, "as it should be", impl.WindowRead(strings.Join(windowParts(), "")), impl.WindowOut{Window: want})
	want.Events = 1000
	is(t, "another count of events", impl.WindowRead(withWindowPart(5, impl.PutNum(1000))), impl.WindowOut{Window: want})
	for _, place := range []int{0, 2, 4, 5, 6, 7, 8, 9, 11, 12, 13} {
		for _, n := range append(farNumbers(), 1<<32, 1<<32+1, 1<<32+3, 1<<32+12) {
			checkNoWindow(t, fmt.Sprint(n, " at ", place), withWindowPart(place, impl.PutNum(n)))
		}
	}
	for _, place := range []int{8, 11} {
		for _, n := range []int64{-2, -1, 0, 2, 3, 12, 13, 14, 400, 401} {
			checkNoWindow(t, fmt.Sprint("a count of ", n, " at ", place), withWindowPart(place, impl.PutNum(n)))
		}
	}
}

// TestWindowReadCounts lays counts that are too great, with as many behind, and with none.
func TestWindowReadCounts(t *testing.T) {
	ahead := "\x06ann\x06cpu" + nums(1, 3, 0, 0)
	hour := nums(1, 744, 0)
	for count := range 15 {
		tags := nums(int64(count))
		for _, tag := range someTags(count) {
			tags += textBytes(tag)
		}
		code := impl.WindowRead(ahead + tags + hour).Code
		is(t, fmt.Sprint(count, " tags"), code == impl.OK, count <= impl.MaxTags)
		hours := nums(0, int64(count))
		for _, h := range hourSums(1, make([]int64, count)...) {
			hours += nums(h.Hour, h.Sum)
		}
		code = impl.WindowRead(ahead + hours).Code
		is(t, fmt.Sprint(count, " hours"), code == impl.OK, inside(int64(count), 1, impl.MaxHours))
		if count > impl.MaxTags {
			checkNoWindow(t, fmt.Sprint(count, " tags read"), ahead+tags+hour)
			checkNoWindow(t, fmt.Sprint(count, " hours read"), ahead+hours)
		}
	}
	for _, n := range append(farNumbers(), 13, 400, 401, 1<<31, 1<<32) {
		checkNoWindow(t, fmt.Sprint(n, " tags alone"), ahead+nums(n))
		checkNoWindow(t, fmt.Sprint(n, " tags and an hour"), ahead+nums(n)+hour)
		checkNoWindow(t, fmt.Sprint(n, " hours alone"), ahead+nums(0, n))
		checkNoWindow(t, fmt.Sprint(n, " hours and one hour"), ahead+nums(0, n, 744, 0))
	}
}

// TestWindowReadNeedlessBytes writes each number of a window with a byte more than it needs.
func TestWindowReadNeedlessBytes(t *testing.T) {
	for place, part := range windowParts() {
		if slices.Contains([]string{"ann", "cpu", "t"}, part) {
			continue
		}
		for _, more := range []string{"\x00", "\x80\x00"} {
			longer := part[:len(part)-1] + string([]byte{part[len(part)-1] | 128}) + more
			checkNoWindow(t, fmt.Sprint("a needless byte at ", place), withWindowPart(place, longer))
		}
	}
	checkNoWindow(t, "a needless byte in a count of no tags", "\x06ann\x06cpu"+nums(1, 3, 0, 0)+"\x80\x00"+nums(1, 744, 0))
}

// TestWindowReadTakesOnlyWhatWindowBytesGives turns bytes of windows: what is still read must have just these bytes.
func TestWindowReadTakesOnlyWhatWindowBytesGives(t *testing.T) {
	draws := sameDraws()
	for _, w := range []impl.Window{bareWindow(), someWindow(), fullWindow(), greatWindow()} {
		text := impl.WindowBytes(w)
		for place := range len(text) {
			for b := range 256 {
				turned := text[:place] + string([]byte{byte(b)}) + text[place+1:]
				back := impl.WindowRead(turned)
				if back.Code == impl.OK {
					is(t, "what was read is right", impl.WindowRight(back.Window), true)
					is(t, "bytes of what was read", windowBytes(back.Window), turned)
				} else {
					is(t, "what was not read", back, impl.WindowOut{Code: impl.ErrSyntax})
				}
			}
		}
	}
	for range 2000 {
		checkNoWindow(t, "any bytes", "\x06ann\x06cpu"+anyText(draws, draws.Intn(60)))
	}
}

func TestWindowReadTooLong(t *testing.T) {
	text := impl.WindowBytes(fullWindow())
	checkNoWindow(t, "MaxBytes bytes", text+longText(impl.MaxBytes-len(text)))
	is(t, "one byte beyond MaxBytes", impl.WindowRead(text+longText(impl.MaxBytes+1-len(text))), impl.WindowOut{Code: impl.ErrSize})
	is(t, "twice MaxBytes", impl.WindowRead(longText(2*impl.MaxBytes)), impl.WindowOut{Code: impl.ErrSize})
	is(t, "no window at all, and too long", impl.WindowRead(strings.Repeat("\x00", impl.MaxBytes+1)), impl.WindowOut{Code: impl.ErrSize})
	wide := someWindow()
	wide.Account = longText(impl.MaxBytes)
	is(t, "an account of MaxBytes bytes", impl.WindowRead(windowBytes(wide)), impl.WindowOut{Code: impl.ErrSize})
}

// spoilWindow turns all that a Window's lists hold, and what room they have behind their end.
func spoilWindow(w impl.Window) {
	tags, hours := w.Tags[:cap(w.Tags)], w.Hours[:cap(w.Hours)]
	for i := range tags {
		tags[i] = "spoiled"
	}
	for i := range hours {
		hours[i] = impl.HourSum{Hour: -1, Sum: -1}
	}
}

// checkShares spoils what an answer holds, and then what was handed in: neither may be seen elsewhere.
func checkShares(t *testing.T, what string, given []impl.Window, ask func() impl.Window) {
	t.Helper()
	var kept []impl.Window
	for _, w := range given {
		kept = append(kept, keptWindow(w))
	}
	first, second := ask(), ask()
	is(t, what+": an answer that is right", impl.WindowRight(first), true)
	want := keptWindow(first)
	spoilWindow(first)
	for i, w := range given {
		is(t, what+": what was handed in", keptWindow(w), kept[i])
	}
	is(t, what+": answered beside it", keptWindow(second), want)
	for _, w := range given {
		spoilWindow(w)
	}
	is(t, what+": answered ahead of that", keptWindow(second), want)
}

// TestWindowSharesNothing joins such as leave one side's lists as they were, too: these must be copied all the same.
func TestWindowSharesNothing(t *testing.T) {
	bare := func() impl.Window { return withHours(someWindow(), hourSums(1, 1)) }
	untagged := func() impl.Window {
		w := bare()
		w.Tags = nil
		return w
	}
	for _, one := range []func() impl.Window{someWindow, fullWindow, bare, untagged} {
		for _, two := range []func() impl.Window{someWindow, bare, untagged} {
			a, b := one(), two()
			a.Tags = slices.DeleteFunc(a.Tags, func(tag string) bool { return tag == "t000" || tag == "t001" })
			checkShares(t, "joined", []impl.Window{a, b}, func() impl.Window { return impl.WindowJoin(a, b).Window })
			c, d := one(), two()
			c.Tags = c.Tags[:len(c.Tags)/2]
			checkShares(t, "joined the other way", []impl.Window{c, d}, func() impl.Window { return impl.WindowJoin(d, c).Window })
		}
		for _, tag := range []string{"", "a", "t001"} {
			w, e := one(), eventIn(someWindow())
			w.Tags = w.Tags[:len(w.Tags)/2]
			e.Minute, e.Tag = 44640, tag
			checkShares(t, "added", []impl.Window{w}, func() impl.Window { return impl.WindowAdd(w, e).Window })
		}
		text := impl.WindowBytes(one())
		checkShares(t, "read", nil, func() impl.Window { return impl.WindowRead(text).Window })
	}
	checkShares(t, "of an event", nil, func() impl.Window { return impl.WindowOf(someEvent()) })
}

// TestWindowLeavesRoomBehind hands in lists that have room behind their end: nothing may be laid there.
func TestWindowLeavesRoomBehind(t *testing.T) {
	tags := append([]string{"s", "t"}, slices.Repeat([]string{"behind"}, 30)...)
	hours := append(hourSums(1, 3, 9), slices.Repeat([]impl.HourSum{{Hour: -7, Sum: -7}}, 30)...)
	keptTags, keptHours := slices.Clone(tags), slices.Clone(hours)
	w := someWindow()
	w.Tags, w.Hours = tags[:2], hours[:2]
	other := withHours(someWindow(), []impl.HourSum{{Hour: lastHour(1), Sum: 4}})
	other.Tags = []string{"a", "z"}
	checkJoin(t, "with room behind", w, other, wantJoin(w, other))
	checkRightWindow(t, "with room behind", w)
	e := eventIn(w)
	e.Tag, e.Minute = "z", lastHour(1)*60
	checkAdd(t, "with room behind", w, e)
	is(t, "the room behind the tags", tags, keptTags)
	is(t, "the room behind the hours", hours, keptHours)
}

func TestWindowTextsAreNew(t *testing.T) {
	w := someWindow()
	w.Account, w.Meter, w.Tags = strings.Repeat("c", 20), strings.Repeat("m", 20), []string{strings.Repeat("t", 10)}
	other := keptWindow(w)
	other.Tags = []string{strings.Repeat("u", 10)}
	got := impl.WindowJoin(w, other).Window
	is(t, "the account", sameBytes(got.Account, w.Account), false)
	is(t, "the meter", sameBytes(got.Meter, w.Meter), false)
	is(t, "a tag of the one", sameBytes(got.Tags[0], w.Tags[0]), false)
	is(t, "a tag of the other one", sameBytes(got.Tags[1], other.Tags[0]), false)
	e := eventIn(w)
	e.Tag = strings.Repeat("v", 10)
	of := impl.WindowOf(e)
	is(t, "the account of an event", sameBytes(of.Account, e.Account), false)
	is(t, "the meter of an event", sameBytes(of.Meter, e.Meter), false)
	is(t, "the tag of an event", sameBytes(of.Tags[0], e.Tag), false)
	text := impl.WindowBytes(w)
	is(t, "the account that was read", sameBytes(impl.WindowRead(text).Window.Account, text[1:]), false)
}
