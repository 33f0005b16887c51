package tests

import (
	"fmt"
	"math"
	"math/rand"
	"slices"
	"strings"
	"testing"
	"time"

	"loop.example/g00562/impl"
)

// lastMonth is 2200 January, in which MaxMinute lies.
const lastMonth = int64(2760)

// someEvent is right; a test turns the field that it asks for.
func someEvent() impl.Event {
	return impl.Event{Id: "e1", Account: "ann", Meter: "cpu", Minute: 61, Amount: 5, Tag: "t"}
}

// withField gives someEvent with one of its texts turned.
func withField(field string, value string) impl.Event {
	e := someEvent()
	switch field {
	case "Id":
		e.Id = value
	case "Account":
		e.Account = value
	case "Meter":
		e.Meter = value
	case "Tag":
		e.Tag = value
	}
	return e
}

// eventBytes lays an Event as chapter 5 says, whether it is right or not.
func eventBytes(e impl.Event) string {
	out := ""
	for _, text := range []string{e.Id, e.Account, e.Meter} {
		out += impl.PutNum(int64(len(text))) + text
	}
	return out + impl.PutNum(e.Minute) + impl.PutNum(e.Amount) + impl.PutNum(int64(len(e.Tag))) + e.Tag
}

// checkRightEvent asks all calls that take an Event, of one that is right.
func checkRightEvent(t *testing.T, e impl.Event) {
	t.Helper()
	what := told(e)
	is(t, what+" is right", impl.EventRight(e), true)
	is(t, what+": its bytes", impl.EventBytes(e), eventBytes(e))
	batch := "\x02" + eventBytes(e)
	is(t, what+": its batch", impl.BatchBytes([]impl.Event{e}), batch)
	is(t, what+": its batch read", impl.BatchRead(batch), impl.BatchOut{Events: []impl.Event{e}})
}

// checkWrongEvent asks all calls that take an Event, of one that is not right.
func checkWrongEvent(t *testing.T, e impl.Event) {
	t.Helper()
	what := told(e)
	is(t, what+" is not right", impl.EventRight(e), false)
	is(t, what+" has no bytes", impl.EventBytes(e), "")
	is(t, what+" is in no batch", impl.BatchBytes([]impl.Event{e}), "")
	is(t, what+" behind a right one", impl.BatchBytes([]impl.Event{someEvent(), e}), "")
	is(t, what+" ahead of a right one", impl.BatchBytes([]impl.Event{e, someEvent()}), "")
	checkUnread(t, what+" read", "\x02"+eventBytes(e))
	checkUnread(t, what+" read behind a right one", "\x04"+eventBytes(someEvent())+eventBytes(e))
	checkUnread(t, what+" read ahead of a right one", "\x04"+eventBytes(e)+eventBytes(someEvent()))
}

func checkEvent(t *testing.T, e impl.Event, right bool) {
	t.Helper()
	if right {
		checkRightEvent(t, e)
	} else {
		checkWrongEvent(t, e)
	}
}

// checkUnread asks BatchRead of bytes that no batch has: no event may stand beside the code.
func checkUnread(t *testing.T, what string, text string) {
	t.Helper()
	is(t, what, impl.BatchRead(text), impl.BatchOut{Code: impl.ErrSyntax})
}

func TestEventWords(t *testing.T) {
	is(t, "MaxMinute", int64(impl.MaxMinute), int64(121000000))
	is(t, "MaxBatch", int64(impl.MaxBatch), int64(20))
}

func TestEventByHand(t *testing.T) {
	e := impl.Event{Id: "e1", Account: "ann", Meter: "disk_0", Minute: 121000000, Amount: 1000000000, Tag: ""}
	is(t, "right", impl.EventRight(e), true)
	is(t, "bytes", impl.EventBytes(e), "\x04e1\x06ann\x0cdisk_0\x80\xc1\xb2\x73\x80\xa8\xd6\xb9\x07\x00")
	e = impl.Event{Id: "!~", Account: "b", Meter: "m9", Tag: "tag"}
	is(t, "bytes of noughts", impl.EventBytes(e), "\x04!~\x02b\x04m9\x00\x00\x06tag")
	is(t, "batch", impl.BatchBytes([]impl.Event{e, e}), "\x04\x04!~\x02b\x04m9\x00\x00\x06tag\x04!~\x02b\x04m9\x00\x00\x06tag")
	checkWrongEvent(t, impl.Event{})
}

// TestEventPrintedBytes lays each byte in each place of an Id and of a Tag.
func TestEventPrintedBytes(t *testing.T) {
	for _, field := range []string{"Id", "Tag"} {
		size := map[string]int{"Id": 20, "Tag": 10}[field]
		for place := range size {
			for b := range 256 {
				text := []byte(strings.Repeat("k", size))
				text[place] = byte(b)
				e := withField(field, string(text))
				is(t, told(e), impl.EventRight(e), b >= 33 && b <= 126)
			}
		}
		for _, b := range []byte{0, 10, 31, 32, 33, 126, 127, 128, 194, 255} {
			checkEvent(t, withField(field, string([]byte{b})), b >= 33 && b <= 126)
			checkEvent(t, withField(field, "k"+string([]byte{b})), b >= 33 && b <= 126)
		}
		for _, text := range []string{"é", "aé", "€", "\u2028", "\U0001F600", "\uFFFD", "a b"} {
			checkWrongEvent(t, withField(field, text))
		}
	}
}

func TestEventTextSizes(t *testing.T) {
	most := map[string]int{"Id": 20, "Account": 20, "Meter": 20, "Tag": 10}
	for field, size := range most {
		checkEvent(t, withField(field, ""), field == "Tag")
		checkRightEvent(t, withField(field, "x"))
		checkRightEvent(t, withField(field, longText(size)))
		checkWrongEvent(t, withField(field, longText(size+1)))
		is(t, field+" of very many bytes", impl.EventRight(withField(field, longText(impl.MaxBytes+1))), false)
		is(t, field+" of very many bytes", impl.EventBytes(withField(field, longText(impl.MaxBytes+1))), "")
	}
}

func TestEventNames(t *testing.T) {
	for _, field := range []string{"Account", "Meter"} {
		for _, text := range []string{"0a", "_a", "A", "aB", "a-b", "a b", " a", "a ", "é", "a\x00", "a\xff"} {
			checkWrongEvent(t, withField(field, text))
		}
		for _, text := range []string{"a", "z", "a0", "a_", "z9_z"} {
			checkRightEvent(t, withField(field, text))
		}
	}
}

func TestEventNumbers(t *testing.T) {
	far := append(farNumbers(), math.MaxInt32, math.MinInt32)
	for _, minute := range append(far, 0, 1, impl.MaxMinute-1, impl.MaxMinute, impl.MaxMinute+1) {
		e := someEvent()
		e.Minute = minute
		checkEvent(t, e, inside(minute, 0, 121000000))
	}
	for _, amount := range append(far, 0, 1, 999999999, 1000000000, 1000000001) {
		e := someEvent()
		e.Amount = amount
		checkEvent(t, e, inside(amount, 0, 1000000000))
	}
}

// anyEvent draws a right one.
func anyEvent(draws *rand.Rand) impl.Event {
	name := func() string {
		return string(rune('a'+draws.Intn(26))) + longText(draws.Intn(20))
	}
	printed := func(size int) string {
		out := make([]byte, size)
		for i := range out {
			out[i] = byte(33 + draws.Intn(94))
		}
		return string(out)
	}
	return impl.Event{
		Id: printed(1 + draws.Intn(20)), Account: name(), Meter: name(),
		Minute: draws.Int63n(impl.MaxMinute + 1), Amount: draws.Int63n(1000000001), Tag: printed(draws.Intn(11)),
	}
}

// anyEvents draws so many right ones.
func anyEvents(draws *rand.Rand, count int) []impl.Event {
	var out []impl.Event
	for range count {
		out = append(out, anyEvent(draws))
	}
	return out
}

// greatEvent has as many bytes as an Event may have.
func greatEvent() impl.Event {
	return impl.Event{Id: longText(20), Account: longText(20), Meter: longText(20), Minute: impl.MaxMinute, Amount: 1000000000, Tag: longText(10)}
}

// TestEventsComeBack is promise 8.
func TestEventsComeBack(t *testing.T) {
	draws := sameDraws()
	for count := range impl.MaxBatch + 1 {
		for range 20 {
			events := anyEvents(draws, count)
			kept := slices.Clone(events)
			text := impl.BatchBytes(events)
			want := impl.PutNum(int64(count))
			for _, e := range events {
				want += eventBytes(e)
			}
			is(t, "the batch's bytes", text, want)
			is(t, "the list handed in", events, kept)
			back := impl.BatchRead(text)
			is(t, "events back", back, impl.BatchOut{Events: kept})
			is(t, "bytes of what came back", impl.BatchBytes(back.Events), text)
		}
	}
}

func TestBatchSizes(t *testing.T) {
	is(t, "bytes of none", impl.BatchBytes(nil), "\x00")
	is(t, "bytes of an empty list", impl.BatchBytes([]impl.Event{}), "\x00")
	is(t, "none back", len(impl.BatchRead("\x00").Events), 0)
	is(t, "none back: its code", impl.BatchRead("\x00").Code, int64(impl.OK))
	full := slices.Repeat([]impl.Event{greatEvent()}, impl.MaxBatch)
	text := impl.BatchBytes(full)
	is(t, "bytes of the greatest batch", text, "\x28"+strings.Repeat(eventBytes(greatEvent()), 20))
	is(t, "the greatest batch back", impl.BatchRead(text), impl.BatchOut{Events: full})
	for _, count := range []int{21, 22, 400, 401, 1000} {
		is(t, fmt.Sprint("bytes of ", count), impl.BatchBytes(slices.Repeat([]impl.Event{someEvent()}, count)), "")
	}
	checkUnread(t, "one event too many", "\x2a"+strings.Repeat(eventBytes(someEvent()), 21))
}

func TestBatchOfOneWrong(t *testing.T) {
	for place := range impl.MaxBatch {
		events := slices.Repeat([]impl.Event{someEvent()}, impl.MaxBatch)
		events[place].Meter = ""
		is(t, fmt.Sprint("wrong at ", place), impl.BatchBytes(events), "")
		text := "\x28"
		for _, e := range events {
			text += eventBytes(e)
		}
		checkUnread(t, fmt.Sprint("read, wrong at ", place), text)
	}
}

func TestBatchReadEndsTooEarly(t *testing.T) {
	draws := sameDraws()
	for count := range 5 {
		text := impl.BatchBytes(anyEvents(draws, count))
		for end := range text {
			checkUnread(t, fmt.Sprint("the first ", end, " bytes of ", count), text[:end])
		}
		for b := range 256 {
			checkUnread(t, fmt.Sprint("one byte more of ", count), text+string([]byte{byte(b)}))
			checkUnread(t, fmt.Sprint("one byte ahead of ", count), string([]byte{byte(b)})+text)
		}
		checkUnread(t, "twice", text+text)
	}
	checkUnread(t, "the empty text", "")
}

func TestBatchReadCounts(t *testing.T) {
	one := eventBytes(someEvent())
	for _, count := range []int64{-1, -20, 21, 400, 1 << 31, 1 << 32, math.MaxInt64, math.MinInt64} {
		checkUnread(t, fmt.Sprint("a count of ", count), impl.PutNum(count))
		checkUnread(t, fmt.Sprint("a count of ", count, " and one event"), impl.PutNum(count)+one)
	}
	checkUnread(t, "fewer than there are", "\x02"+one+one)
	checkUnread(t, "none, but one is there", "\x00"+one)
	checkUnread(t, "more than there are", "\x06"+one+one)
}

// TestBatchReadNeedlessBytes writes each number of a batch with a byte more than it needs.
func TestBatchReadNeedlessBytes(t *testing.T) {
	checkUnread(t, "the count of none", "\x80\x00")
	parts := []string{"\x02", "\x04", "e1", "\x06", "ann", "\x06", "cpu", "\x7a", "\x0a", "\x02", "t"}
	is(t, "as it should be", impl.BatchRead(strings.Join(parts, "")), impl.BatchOut{Events: []impl.Event{someEvent()}})
	for _, place := range []int{0, 1, 3, 5, 7, 8, 9} {
		for _, more := range []string{"\x00", "\x80\x00"} {
			turned := slices.Clone(parts)
			turned[place] = string([]byte{turned[place][0] | 128}) + more
			checkUnread(t, fmt.Sprint("a needless byte at ", place), strings.Join(turned, ""))
		}
	}
}

// TestBatchReadTakesOnlyWhatBatchBytesGives turns bytes of a batch: what is still read must have just these bytes.
func TestBatchReadTakesOnlyWhatBatchBytesGives(t *testing.T) {
	draws := sameDraws()
	text := impl.BatchBytes(anyEvents(draws, 3))
	for place := range text {
		for b := range 256 {
			turned := text[:place] + string([]byte{byte(b)}) + text[place+1:]
			back := impl.BatchRead(turned)
			if back.Code == impl.OK {
				is(t, "bytes of what was read", impl.BatchBytes(back.Events), turned)
			} else {
				is(t, "what was not read", back, impl.BatchOut{Code: impl.ErrSyntax})
			}
		}
	}
	for range 2000 {
		checkUnread(t, "any bytes", "\x04"+anyText(draws, draws.Intn(60)))
	}
}

func TestBatchReadTooLong(t *testing.T) {
	one := impl.BatchBytes([]impl.Event{someEvent()})
	checkUnread(t, "MaxBytes bytes", one+longText(impl.MaxBytes-len(one)))
	is(t, "one byte beyond MaxBytes", impl.BatchRead(one+longText(impl.MaxBytes+1-len(one))), impl.BatchOut{Code: impl.ErrSize})
	is(t, "twice MaxBytes", impl.BatchRead(longText(2*impl.MaxBytes)), impl.BatchOut{Code: impl.ErrSize})
}

// TestBatchSharesNothing turns what came back, and what was handed in: neither may be seen elsewhere.
func TestBatchSharesNothing(t *testing.T) {
	events := []impl.Event{greatEvent(), someEvent()}
	text := impl.BatchBytes(events)
	first, second := impl.BatchRead(text).Events, impl.BatchRead(text).Events
	first[0].Id, events[1].Id = "another", "another"
	_ = append(first[:1], greatEvent())
	is(t, "read ahead of that", second, []impl.Event{greatEvent(), someEvent()})
	is(t, "read behind that", impl.BatchRead(text).Events, []impl.Event{greatEvent(), someEvent()})
}

func TestHourOf(t *testing.T) {
	by := map[int64]int64{0: 0, 1: 0, 59: 0, 60: 1, 61: 1, 119: 1, 120: 2, 1439: 23, 1440: 24, 121000000: 2016666, 120999960: 2016666, 120999959: 2016665}
	for minute, hour := range by {
		is(t, fmt.Sprint("hour of ", minute), impl.HourOf(minute), hour)
	}
	for _, minute := range append(farNumbers(), 121000001, 121000060) {
		is(t, fmt.Sprint("hour of ", minute), impl.HourOf(minute), int64(-1))
		is(t, fmt.Sprint("month of ", minute), impl.MonthOf(minute), int64(-1))
	}
}

// wantStart is a month's first minute by the library's calendar.
func wantStart(month int64) int64 {
	return time.Date(1970+int(month/12), time.Month(month%12+1), 1, 0, 0, 0, 0, time.UTC).Unix() / 60
}

// TestMonthsStart is promise 9 of each month.
func TestMonthsStart(t *testing.T) {
	for month := int64(0); month <= lastMonth; month++ {
		what := fmt.Sprint("month ", month)
		start := impl.MonthStart(month)
		is(t, what+": its first minute", start, wantStart(month))
		is(t, what+": of its first minute", impl.MonthOf(start), month)
		is(t, what+": of the minute ahead", impl.MonthOf(start-1), month-1)
		is(t, what+": of its second minute", impl.MonthOf(start+1), month)
		is(t, what+": the first minute begins an hour", impl.HourOf(start)*60, start)
		is(t, what+": its text", impl.MonthText(month), givenDay(start/1440).Format("2006-01"))
	}
	for _, month := range append(farNumbers(), lastMonth+1, 2761, 2772) {
		is(t, fmt.Sprint("first minute of ", month), impl.MonthStart(month), int64(-1))
		is(t, fmt.Sprint("text of ", month), impl.MonthText(month), "")
	}
}

func TestMonthsByHand(t *testing.T) {
	starts := map[int64]int64{0: 0, 1: 44640, 2: 84960, 12: 525600, 24: 1051200, 26: 1137600, 2760: 120968640}
	for month, start := range starts {
		is(t, fmt.Sprint("start of ", month), impl.MonthStart(month), start)
	}
	months := map[int64]int64{0: 0, 59: 0, 60: 0, 44639: 0, 44640: 1, 84959: 1, 84960: 2, 120968639: 2759, 120968640: 2760, 121000000: 2760}
	for minute, month := range months {
		is(t, fmt.Sprint("month of ", minute), impl.MonthOf(minute), month)
	}
	texts := map[int64]string{0: "1970-01", 9: "1970-10", 11: "1970-12", 12: "1971-01", 2759: "2199-12", 2760: "2200-01", -1: "", 2761: ""}
	for month, text := range texts {
		is(t, fmt.Sprint("text of ", month), impl.MonthText(month), text)
	}
}

// TestMonthsLastMinutes takes a month of each length: 31 and 30 days, and February in four kinds of years.
func TestMonthsLastMinutes(t *testing.T) {
	for _, d := range []impl.Date{date(1971, 1, 31), date(1971, 4, 30), date(1971, 2, 28), date(1972, 2, 29), date(2000, 2, 29), date(2100, 2, 28), date(2199, 12, 31)} {
		last := impl.DayOf(d)*1440 + 1439
		month := (d.Year-1970)*12 + d.Month - 1
		is(t, fmt.Sprintf("%+v: its last minute", d), impl.MonthOf(last), month)
		is(t, fmt.Sprintf("%+v: the minute behind", d), impl.MonthOf(last+1), month+1)
	}
}

// TestMinutesLieInTheirMonth is promise 9 of drawn minutes.
func TestMinutesLieInTheirMonth(t *testing.T) {
	draws := sameDraws()
	for range 20000 {
		minute := draws.Int63n(impl.MaxMinute + 1)
		month, hour := impl.MonthOf(minute), impl.HourOf(minute)
		given := givenDay(minute / 1440)
		is(t, fmt.Sprint("month of ", minute), month, int64(given.Year()-1970)*12+int64(given.Month())-1)
		is(t, fmt.Sprint("starts no later than ", minute), impl.MonthStart(month) <= minute, true)
		if month < lastMonth {
			is(t, fmt.Sprint("the next one starts behind ", minute), impl.MonthStart(month+1) > minute, true)
		}
		is(t, fmt.Sprint("in its hour: ", minute), hour*60 <= minute && minute < hour*60+60, true)
	}
}
