package tests

import (
	"fmt"
	"math"
	"math/rand"
	"slices"
	"strings"
	"testing"
	"time"

	"loop.example/g00562/impl"
)

// lastDay is that of 2200 Dec 31, the last Date that is right.
const lastDay = int64(84370)

func date(year int64, month int64, day int64) impl.Date {
	return impl.Date{Year: year, Month: month, Day: day}
}

// givenDay has the library's calendar tell a day; nothing here asks for the time.
func givenDay(day int64) time.Time {
	return time.Unix(day*86400, 0).UTC()
}

// wantDate is the Date of a day by the library's calendar.
func wantDate(day int64) impl.Date {
	given := givenDay(day)
	return date(int64(given.Year()), int64(given.Month()), int64(given.Day()))
}

// wantLength is how many days a month has by the library's calendar: the day 0 of the next month is this one's last.
func wantLength(year int64, month int64) int64 {
	return int64(time.Date(int(year), time.Month(month+1), 0, 0, 0, 0, 0, time.UTC).Day())
}

// farNumbers lie out of every limit of this chapter.
func farNumbers() []int64 {
	return []int64{math.MinInt64, math.MinInt64 + 1, -1 << 32, -1, math.MaxInt64 - 1, math.MaxInt64}
}

// wantRight holds a Date against the limits that the document names.
func wantRight(d impl.Date) bool {
	return inside(d.Year, 1970, 2200) && inside(d.Month, 1, 12) && inside(d.Day, 1, wantLength(d.Year, d.Month))
}

// checkWrong asks all calls that take a Date, of one that is not right.
func checkWrong(t *testing.T, d impl.Date) {
	t.Helper()
	what := fmt.Sprintf("%+v", d)
	is(t, what+" is not right", impl.DateRight(d), false)
	is(t, what+" has no day", impl.DayOf(d), int64(-1))
	is(t, what+" has no text", impl.DateText(d), "")
}

// checkDate asks all calls that take a Date, of any one.
func checkDate(t *testing.T, d impl.Date) {
	t.Helper()
	if !wantRight(d) {
		checkWrong(t, d)
		return
	}
	what := fmt.Sprintf("%+v", d)
	given := time.Date(int(d.Year), time.Month(d.Month), int(d.Day), 0, 0, 0, 0, time.UTC)
	is(t, what+" is right", impl.DateRight(d), true)
	is(t, what+": its day", impl.DayOf(d), given.Unix()/86400)
	is(t, what+": its text", impl.DateText(d), given.Format("2006-01-02"))
}

func TestDateWords(t *testing.T) {
	is(t, "MaxDay", int64(impl.MaxDay), int64(100000))
}

func TestDateLimits(t *testing.T) {
	days := append(farNumbers(), 0, 1, 2, 27, 28, 29, 30, 31, 32, 33, 100)
	for _, year := range []int64{1969, 1970, 1971, 1972, 1999, 2000, 2100, 2199, 2200, 2201} {
		for month := int64(-1); month <= 14; month++ {
			for _, day := range days {
				checkDate(t, date(year, month, day))
			}
		}
	}
	checkWrong(t, impl.Date{})
	for _, far := range farNumbers() {
		checkWrong(t, date(far, 1, 1))
		checkWrong(t, date(2000, far, 1))
		checkWrong(t, date(2000, 1, far))
		checkWrong(t, date(far, far, far))
	}
}

func TestDateRightByHand(t *testing.T) {
	for _, d := range []impl.Date{date(1970, 1, 1), date(2200, 12, 31), date(1972, 2, 29), date(2000, 2, 29), date(2024, 2, 29), date(2100, 2, 28), date(2023, 4, 30)} {
		is(t, fmt.Sprintf("%+v", d), impl.DateRight(d), true)
	}
	for _, d := range []impl.Date{date(1969, 12, 31), date(2201, 1, 1), date(1971, 2, 29), date(1972, 2, 30), date(2100, 2, 29), date(2200, 2, 29), date(2023, 4, 31), date(2023, 12, 32), date(2023, 0, 1), date(2023, 13, 1), date(2023, 1, 0)} {
		checkWrong(t, d)
	}
}

func TestDateLeap(t *testing.T) {
	leap := []int64{1972, 1976, 1996, 2000, 2004, 2024, 2096, 2104, 2196, 1600, 2400}
	for _, year := range leap {
		is(t, fmt.Sprint("leap ", year), impl.Leap(year), true)
	}
	plain := []int64{1970, 1971, 1973, 1974, 1999, 2001, 2002, 2023, 2099, 2100, 2101, 2199, 2200, 2201, 1900, 2300}
	for _, year := range plain {
		is(t, fmt.Sprint("leap ", year), impl.Leap(year), false)
	}
	// Its sentence names no limits: 4 divides the least number, and 100 does not.
	is(t, "leap of the least number", impl.Leap(math.MinInt64), true)
	is(t, "leap of the greatest number", impl.Leap(math.MaxInt64), false)
}

func TestDateMonthDays(t *testing.T) {
	is(t, "by hand", []int64{impl.MonthDays(1972, 2), impl.MonthDays(2000, 2), impl.MonthDays(2100, 2), impl.MonthDays(2200, 2), impl.MonthDays(1971, 2)}, []int64{29, 29, 28, 28, 28})
	for year := int64(1970); year <= 2200; year++ {
		for month := int64(1); month <= 12; month++ {
			is(t, fmt.Sprint("days of ", year, month), impl.MonthDays(year, month), wantLength(year, month))
		}
		is(t, fmt.Sprint("month 0 of ", year), impl.MonthDays(year, 0), int64(0))
		is(t, fmt.Sprint("month 13 of ", year), impl.MonthDays(year, 13), int64(0))
	}
	for _, year := range append(farNumbers(), 0, 1968, 1969, 2201, 2204) {
		is(t, fmt.Sprint("of the year ", year), []int64{impl.MonthDays(year, 1), impl.MonthDays(year, 2), impl.MonthDays(year, 12)}, []int64{0, 0, 0})
	}
	for _, month := range farNumbers() {
		is(t, fmt.Sprint("of the month ", month), impl.MonthDays(2000, month), int64(0))
	}
}

// Promise 6, of every day that has a Date.
func TestDateComesBack(t *testing.T) {
	for day := int64(0); day <= lastDay; day++ {
		d := impl.DateOf(day)
		text := impl.DateText(d)
		right := impl.DateRight(d) && impl.DayOf(d) == day && impl.DateRead(text) == impl.DateOut{Date: d}
		if !right || d != wantDate(day) || text != givenDay(day).Format("2006-01-02") {
			t.Fatalf("day %d: got %+v, its day %d, its text %q, which is read as %+v", day, d, impl.DayOf(d), text, impl.DateRead(text))
		}
	}
}

// nextDate goes on by the document's own words: the next day of the month, or the first one of the next month or year.
func nextDate(d impl.Date) impl.Date {
	switch {
	case d.Day < wantLength(d.Year, d.Month):
		return date(d.Year, d.Month, d.Day+1)
	case d.Month < 12:
		return date(d.Year, d.Month+1, 1)
	}
	return date(d.Year+1, 1, 1)
}

// Promise 6: the next day is the next date.
func TestDateNextDay(t *testing.T) {
	d := date(1970, 1, 1)
	for day := int64(0); day <= lastDay; day++ {
		if impl.DayOf(d) != day || impl.DateOf(day) != d {
			t.Fatalf("day %d: got %+v, want %+v, whose day is told as %d", day, impl.DateOf(day), d, impl.DayOf(d))
		}
		d = nextDate(d)
	}
	is(t, "the first date that is not right", d, date(2201, 1, 1))
}

func TestDateOfBehindTheLastYear(t *testing.T) {
	is(t, "the first day", impl.DateOf(0), date(1970, 1, 1))
	is(t, "the last day of a Date", impl.DateOf(lastDay), date(2200, 12, 31))
	is(t, "its day", impl.DayOf(date(2200, 12, 31)), lastDay)
	for day := lastDay + 1; day <= impl.MaxDay; day++ {
		is(t, fmt.Sprint("the Date of ", day), impl.DateOf(day), impl.Date{})
	}
	for _, day := range append(farNumbers(), impl.MaxDay+1) {
		is(t, fmt.Sprint("the Date of ", day), impl.DateOf(day), impl.Date{})
	}
}

func TestDateWeekday(t *testing.T) {
	is(t, "the first days", []int64{impl.Weekday(0), impl.Weekday(1), impl.Weekday(2), impl.Weekday(3), impl.Weekday(4), impl.Weekday(5), impl.Weekday(6), impl.Weekday(7)}, []int64{3, 4, 5, 6, 0, 1, 2, 3})
	for day := int64(0); day <= impl.MaxDay; day++ {
		want := (int64(givenDay(day).Weekday()) + 6) % 7 // the library's week begins with Sunday
		if got := impl.Weekday(day); got != want {
			t.Fatalf("weekday of %d: got %d, want %d", day, got, want)
		}
	}
	for _, day := range append(farNumbers(), impl.MaxDay+1) {
		is(t, fmt.Sprint("weekday of ", day), impl.Weekday(day), int64(-1))
	}
}

func TestDateTextByHand(t *testing.T) {
	is(t, "one digit each", impl.DateText(date(1970, 1, 2)), "1970-01-02")
	is(t, "two digits each", impl.DateText(date(2200, 12, 31)), "2200-12-31")
	is(t, "of none", impl.DateText(impl.Date{}), "")
}

func TestDateReadRefuses(t *testing.T) {
	texts := []string{
		"", "-", "--", "1", "1970", "1970-01", "1970-01-0", "1970-01-011", "01970-01-01", "1970-001-01", "1970-1-01", "1970-01-1", "1970-1-1", "1970-1-001", "1970-001-1",
		" 1970-01-01", "1970-01-01 ", "1970-01-01\n", "1970-01-01\x00", " 970-01-01", "1970- 1-01", "1970-01- 1", "1970-1 -01", "1970-01-1 ",
		"+970-01-01", "-970-01-01", "1970-+1-01", "1970--1-01", "1970-01-+1", "1970-01--1", "+1970-1-01", "+1970-01-1",
		"1970/01/01", "1970-01/01", "1970/01-01", "1970_01-01", "1970-01.01", "19700101", "1970001001", "1970-01001", "1970001-01",
		"1a70-01-01", "1970-0a-01", "1970-01-0a", "0x70-01-01", "1_70-01-01", "1970-1_-01", "1e03-01-01", "１970-01-", "197-01-01-",
		"0000-00-00", "1970-00-01", "1970-01-00", "1970-13-01", "1970-01-32", "1970-04-31", "1971-02-29", "1972-02-30", "2100-02-29", "2200-02-29", "1969-12-31", "2201-01-01", "9999-12-31",
		"01-01-1970", "70-01-01", "0070-01-01", "2000-99-99", longText(10), longText(impl.MaxBytes), strings.Repeat("1970-01-01", 2),
	}
	for _, text := range texts {
		is(t, fmt.Sprintf("%.40q", text), impl.DateRead(text), impl.DateOut{Code: impl.ErrSyntax})
	}
	is(t, "more than MaxBytes bytes", impl.DateRead(longText(impl.MaxBytes+1)), impl.DateOut{Code: impl.ErrSize})
	is(t, "a date ahead of more than MaxBytes bytes", impl.DateRead("1970-01-01"+longText(impl.MaxBytes)), impl.DateOut{Code: impl.ErrSize})
}

// With another byte in any one place a text is refused, or is the text of another right Date.
func TestDateReadEachByte(t *testing.T) {
	for _, text := range []string{"1970-01-01", "2000-02-29", "2200-12-31"} {
		for place := range len(text) {
			for b := range 256 {
				turned := []byte(text)
				turned[place] = byte(b)
				want := impl.DateOut{Code: impl.ErrSyntax}
				if given, err := time.Parse("2006-01-02", string(turned)); err == nil && inside(int64(given.Year()), 1970, 2200) {
					want = impl.DateOut{Date: date(int64(given.Year()), int64(given.Month()), int64(given.Day()))}
				}
				is(t, fmt.Sprintf("%q", turned), impl.DateRead(string(turned)), want)
			}
		}
	}
}

// daysFrom has so many days, one behind the other.
func daysFrom(first int64, count int) []int64 {
	out := make([]int64, count)
	for i := range out {
		out[i] = first + int64(i)
	}
	return out
}

// wantListRight holds a list of free days against the limits that the document names.
func wantListRight(free []int64) bool {
	for i, day := range free {
		if !inside(day, 0, 100000) || i > 0 && free[i-1] >= day {
			return false
		}
	}
	return len(free) <= 60
}

func wantFree(day int64, free []int64) bool {
	if !inside(day, 0, 100000) || !wantListRight(free) {
		return false
	}
	week := givenDay(day).Weekday()
	return week == time.Saturday || week == time.Sunday || slices.Contains(free, day)
}

func wantOpen(day int64, free []int64) int64 {
	if !inside(day, 0, 100000) || !wantListRight(free) {
		return -1
	}
	for wantFree(day, free) {
		day++
	}
	if day > 100000 {
		return -1
	}
	return day
}

// checkFree asks both calls, twice: nothing is kept, and the list is left as it was, with what stands behind its end.
func checkFree(t *testing.T, day int64, free []int64) {
	t.Helper()
	what := fmt.Sprint("day ", day, ", of the list ", free)
	list := append(slices.Clone(free), -7, -8)
	handed := list[:len(free)]
	for range 2 {
		is(t, what+": free", impl.FreeDay(day, handed), wantFree(day, free))
		is(t, what+": open", impl.NextOpen(day, handed), wantOpen(day, free))
	}
	is(t, what+": the list behind", list, append(slices.Clone(free), -7, -8))
}

func TestFreeDayByHand(t *testing.T) {
	is(t, "by the week", []bool{impl.FreeDay(0, nil), impl.FreeDay(1, nil), impl.FreeDay(2, nil), impl.FreeDay(3, nil), impl.FreeDay(4, nil)}, []bool{false, false, true, true, false})
	is(t, "an empty list and none are the same", impl.FreeDay(2, []int64{}), true)
	is(t, "by the list", []bool{impl.FreeDay(4, []int64{4}), impl.FreeDay(4, []int64{5}), impl.FreeDay(5, []int64{4, 6})}, []bool{true, false, false})
	is(t, "first, last and between of a list", []bool{impl.FreeDay(4, []int64{4, 5, 6}), impl.FreeDay(5, []int64{4, 5, 6}), impl.FreeDay(6, []int64{4, 5, 6})}, []bool{true, true, true})
	is(t, "by both", impl.FreeDay(2, []int64{2}), true)
	is(t, "the day 0 of a list", impl.FreeDay(0, []int64{0}), true)
	is(t, "MaxDay of a list", impl.FreeDay(impl.MaxDay, []int64{impl.MaxDay}), true)
	is(t, "MaxDay is a Tuesday", impl.FreeDay(impl.MaxDay, nil), false)
}

func TestNextOpenByHand(t *testing.T) {
	is(t, "an open day is its own", impl.NextOpen(0, nil), int64(0))
	is(t, "from Saturday on", impl.NextOpen(2, nil), int64(4))
	is(t, "from Sunday on", impl.NextOpen(3, []int64{}), int64(4))
	is(t, "by the list", impl.NextOpen(4, []int64{4}), int64(5))
	is(t, "by the list, then the week, then the list", impl.NextOpen(0, []int64{0, 1, 4, 5}), int64(6))
	is(t, "by both", impl.NextOpen(2, []int64{2, 3}), int64(4))
	is(t, "a gap in the list", impl.NextOpen(4, []int64{4, 6}), int64(5))
	is(t, "what is free ahead of it does not count", impl.NextOpen(6, []int64{4, 5}), int64(6))
	is(t, "sixty days in a row", impl.NextOpen(4, daysFrom(4, 60)), int64(64))
}

// wrongLists are lists that are refused, of what the document calls right up to one fault each.
func wrongLists() [][]int64 {
	return [][]int64{
		{4, 4}, {5, 4}, {1, 4, 4}, {1, 5, 4}, {4, 1, 5}, {4, 5, 5, 6}, {6, 5, 4}, {2, 2},
		{-1}, {-1, 4}, {impl.MaxDay + 1}, {4, impl.MaxDay + 1}, {4, -1}, {impl.MaxDay + 1, 4},
		{math.MinInt64}, {math.MinInt64, 4}, {math.MaxInt64}, {4, math.MaxInt64},
		daysFrom(4, 61), daysFrom(1000, 61), daysFrom(4, impl.MaxList),
	}
}

func TestFreeDayWrongLists(t *testing.T) {
	for _, free := range wrongLists() {
		for _, day := range []int64{0, 2, 3, 4, 5, 1000, impl.MaxDay} {
			what := fmt.Sprint("day ", day, ", of the list ", told(free))
			is(t, what+": free", impl.FreeDay(day, free), false)
			is(t, what+": open", impl.NextOpen(day, free), int64(-1))
			checkFree(t, day, free)
		}
	}
}

func TestFreeDaySizes(t *testing.T) {
	is(t, "sixty: Saturday", impl.FreeDay(2, daysFrom(4, 60)), true)
	is(t, "sixty: the last one", impl.FreeDay(63, daysFrom(4, 60)), true)
	is(t, "sixty-one: Saturday", impl.FreeDay(2, daysFrom(4, 61)), false)
	is(t, "sixty-one: open", impl.NextOpen(2, daysFrom(4, 61)), int64(-1))
	is(t, "MaxList: open", impl.NextOpen(2, daysFrom(4, impl.MaxList)), int64(-1))
	// Chapter 1 refuses a list of more than MaxList items with the zero answer, ahead of all else.
	is(t, "more than MaxList: free", impl.FreeDay(2, daysFrom(4, impl.MaxList+1)), false)
	is(t, "more than MaxList: open", impl.NextOpen(2, daysFrom(4, impl.MaxList+1)), int64(0))
	is(t, "more than MaxList, and no day", impl.NextOpen(-1, daysFrom(4, impl.MaxList+1)), int64(0))
}

func TestFreeDayOfNoDay(t *testing.T) {
	for _, day := range append(farNumbers(), -2, impl.MaxDay+1, impl.MaxDay+2) {
		for _, free := range [][]int64{nil, {0}, {impl.MaxDay}, daysFrom(0, 60), {day}} {
			is(t, fmt.Sprint("free ", day), impl.FreeDay(day, free), false)
			is(t, fmt.Sprint("open ", day), impl.NextOpen(day, free), int64(-1))
		}
	}
}

func TestNextOpenAtTheEnd(t *testing.T) {
	for back := int64(0); back <= 70; back++ {
		day := impl.MaxDay - back
		checkFree(t, day, nil)
		for _, count := range []int{1, 2, 3, 5, 7, 30, 59, 60} {
			checkFree(t, day, daysFrom(impl.MaxDay-int64(count)+1, count))
			checkFree(t, day, daysFrom(impl.MaxDay-int64(count), count))
		}
	}
	is(t, "MaxDay is open", impl.NextOpen(impl.MaxDay, nil), int64(impl.MaxDay))
	is(t, "the last week's end, then two of the list", impl.NextOpen(impl.MaxDay-3, []int64{impl.MaxDay - 1, impl.MaxDay}), int64(-1))
	is(t, "the last week's end, then one of the list", impl.NextOpen(impl.MaxDay-3, []int64{impl.MaxDay - 1}), int64(impl.MaxDay))
	is(t, "MaxDay in the list", impl.NextOpen(impl.MaxDay, []int64{impl.MaxDay}), int64(-1))
	is(t, "sixty days up to MaxDay", impl.NextOpen(impl.MaxDay-59, daysFrom(impl.MaxDay-59, 60)), int64(-1))
}

// anyFree draws days that rise, in a stretch from low on, so that many of them lie close.
func anyFree(draws *rand.Rand, low int64) []int64 {
	out := []int64{}
	for day := low; day <= min(low+90, impl.MaxDay) && len(out) < 60; day++ {
		if draws.Intn(3) > 0 {
			out = append(out, day)
		}
	}
	return out
}

// Promise 7.
func TestNextOpenIsTheFirst(t *testing.T) {
	draws := sameDraws()
	for range 3000 {
		low := draws.Int63n(impl.MaxDay + 1)
		if draws.Intn(4) == 0 {
			low = impl.MaxDay - draws.Int63n(100)
		}
		free := anyFree(draws, low)
		day := min(low+draws.Int63n(30), impl.MaxDay)
		checkFree(t, day, free)
		open := impl.NextOpen(day, free)
		if open == -1 {
			open = impl.MaxDay + 1
		}
		if open < day || impl.FreeDay(open, free) {
			t.Errorf("from %d on: got %d, of the list %v", day, open, free)
		}
		for between := day; between < open; between++ {
			is(t, fmt.Sprint("between ", day, " and ", open, ": ", between), impl.FreeDay(between, free), true)
		}
	}
}
