package tests

import (
	"fmt"
	"hash/crc32"
	"math"
	"math/rand"
	"slices"
	"strings"
	"testing"

	"loop.example/g00562/impl"
)

// greatestSum is the greatest one that an Entry may have.
const greatestSum = int64(4294967295)

// entryAt is the Entry at a place of someEntries; Ids rise with it, Minutes do not.
func entryAt(place int) impl.Entry {
	return impl.Entry{Id: fmt.Sprintf("k%03d", place), Minute: int64(place * 37 % 100), Sum: int64(place)}
}

// someEntries are right, while they are no more than may be.
func someEntries(count int) []impl.Entry {
	var out []impl.Entry
	for place := range count {
		out = append(out, entryAt(place))
	}
	return out
}

// idEntries are of these Ids, right in all else.
func idEntries(ids ...string) []impl.Entry {
	var out []impl.Entry
	for i, id := range ids {
		out = append(out, impl.Entry{Id: id, Minute: int64(i), Sum: int64(i)})
	}
	return out
}

// wantEntry is the Entry of a right Event by the library's CRC.
func wantEntry(e impl.Event) impl.Entry {
	return impl.Entry{Id: e.Id, Minute: e.Minute, Sum: int64(crc32.ChecksumIEEE([]byte(eventBytes(e))))}
}

// eventOf is a right one of that Id.
func eventOf(id string) impl.Event {
	return withField("Id", id)
}

// orNone makes none of an empty list, for both are the same.
func orNone(l []impl.Entry) []impl.Entry {
	if len(l) == 0 {
		return nil
	}
	return l
}

// wantDrop are those whose Minute is not below before.
func wantDrop(l []impl.Entry, before int64) []impl.Entry {
	return orNone(slices.DeleteFunc(slices.Clone(l), func(entry impl.Entry) bool { return entry.Minute < before }))
}

// checkTakeCode asks SeenTake of what it refuses: no Entry may stand beside the code.
func checkTakeCode(t *testing.T, what string, l []impl.Entry, e impl.Event, code int64) {
	t.Helper()
	kept := slices.Clone(l)
	is(t, what, impl.SeenTake(l, e), impl.SeenOut{Code: code})
	is(t, what+": the list is left as it was", l, kept)
}

// checkTake asks SeenTake of an Event that is new to a list that has room.
func checkTake(t *testing.T, what string, l []impl.Entry, e impl.Event) []impl.Entry {
	t.Helper()
	kept := slices.Clone(l)
	want := append(slices.Clone(l), wantEntry(e))
	slices.SortFunc(want, func(a impl.Entry, b impl.Entry) int { return strings.Compare(a.Id, b.Id) })
	got := impl.SeenTake(l, e)
	is(t, what, got, impl.SeenOut{Seen: want})
	is(t, what+": what comes out is right", impl.SeenRight(got.Seen), true)
	is(t, what+": the list is left as it was", l, kept)
	return got.Seen
}

// checkDrop asks SeenDrop of a right list.
func checkDrop(t *testing.T, what string, l []impl.Entry, before int64) {
	t.Helper()
	kept := slices.Clone(l)
	got := impl.SeenDrop(l, before)
	is(t, fmt.Sprint(what, " dropped before ", before), orNone(got), wantDrop(kept, before))
	is(t, what+": what stays is right", impl.SeenRight(got), true)
	is(t, what+": the list is left as it was", l, kept)
}

// checkRightSeen asks all calls that take a list, of one that is right.
func checkRightSeen(t *testing.T, what string, l []impl.Entry) {
	t.Helper()
	is(t, what+" is right", impl.SeenRight(l), true)
	for _, entry := range l {
		is(t, what+" has "+entry.Id, impl.SeenHas(l, entry.Id), true)
		checkTakeCode(t, what+": another of "+entry.Id, l, eventOf(entry.Id), impl.ErrClash)
		checkDrop(t, what, l, entry.Minute)
	}
	for _, before := range []int64{math.MinInt64, 0, 50, math.MaxInt64} {
		checkDrop(t, what, l, before)
	}
	is(t, what+" has no other", impl.SeenHas(l, "other"), false)
	if len(l) < impl.MaxSeen {
		checkTake(t, what+": another one", l, eventOf("other"))
	} else {
		checkTakeCode(t, what+": another one", l, eventOf("other"), impl.ErrFull)
	}
}

// checkWrongSeen asks all calls that take a list, of one that is not right.
func checkWrongSeen(t *testing.T, what string, l []impl.Entry) {
	t.Helper()
	code := int64(impl.ErrForm)
	if len(l) > impl.MaxList {
		code = impl.ErrSize
	}
	kept := slices.Clone(l)
	is(t, what+" is not right", impl.SeenRight(l), false)
	checkTakeCode(t, what+": another one", l, eventOf("other"), code)
	checkTakeCode(t, what+": what is no event", l, impl.Event{}, code)
	for _, entry := range l {
		is(t, what+" has none", impl.SeenHas(l, entry.Id), false)
		checkTakeCode(t, what+": one of its Ids", l, eventOf(entry.Id), code)
	}
	is(t, what+" has no other", impl.SeenHas(l, "other"), false)
	for _, before := range []int64{math.MinInt64, 0, 1, math.MaxInt64} {
		is(t, what+": none stays", len(impl.SeenDrop(l, before)), 0)
	}
	is(t, what+" is left as it was", l, kept)
}

func checkSeen(t *testing.T, what string, l []impl.Entry, right bool) {
	t.Helper()
	if right {
		checkRightSeen(t, what, l)
	} else {
		checkWrongSeen(t, what, l)
	}
}

func TestSeenWords(t *testing.T) {
	is(t, "MaxSeen", int64(impl.MaxSeen), int64(40))
}

func TestSeenByHand(t *testing.T) {
	e := impl.Event{Id: "e1", Account: "ann", Meter: "cpu", Minute: 61, Amount: 5}
	first := impl.SeenTake(nil, e)
	sum := int64(crc32.ChecksumIEEE([]byte("\x04e1\x06ann\x06cpu\x7a\x0a\x00")))
	is(t, "one", first, impl.SeenOut{Seen: []impl.Entry{{Id: "e1", Minute: 61, Sum: sum}}})
	is(t, "into an empty list", impl.SeenTake([]impl.Entry{}, e), first)
	is(t, "again", impl.SeenTake(first.Seen, e), impl.SeenOut{Code: impl.ErrThere})
	e.Minute = 62
	is(t, "of another minute", impl.SeenTake(first.Seen, e), impl.SeenOut{Code: impl.ErrClash})
	is(t, "dropped before its minute", impl.SeenDrop(first.Seen, 61), first.Seen)
	is(t, "dropped before the next one", len(impl.SeenDrop(first.Seen, 62)), 0)
	is(t, "the zero Entry", impl.SeenRight([]impl.Entry{{}}), false)
}

func TestSeenSizes(t *testing.T) {
	for _, count := range []int{0, 1, 2, 3, 39, impl.MaxSeen, impl.MaxSeen + 1, 42, impl.MaxList - 1, impl.MaxList, impl.MaxList + 1, 1000} {
		checkSeen(t, fmt.Sprint(count, " entries"), someEntries(count), count <= impl.MaxSeen)
	}
	checkRightSeen(t, "an empty list", []impl.Entry{})
}

func TestSeenRises(t *testing.T) {
	right := [][]string{{"a", "b"}, {"a", "aa"}, {"!", "~"}, {"A", "a"}, {"a0", "aA", "a_", "aa"}, {"e1", "e10", "e2"}, {longText(19), longText(20)}}
	for _, ids := range right {
		checkRightSeen(t, fmt.Sprint("ids ", ids), idEntries(ids...))
	}
	wrong := [][]string{
		{"a", "a"}, {"b", "a"}, {"aa", "a"}, {"~", "!"}, {"a", "A"}, {"e2", "e10"}, {longText(20), longText(19)},
		{"a", "b", "b"}, {"a", "a", "b"}, {"a", "c", "b"}, {"b", "a", "c"}, {"a", "b", "a"}, {"c", "b", "a"},
	}
	for _, ids := range wrong {
		checkWrongSeen(t, fmt.Sprint("ids ", ids), idEntries(ids...))
	}
	for place := 1; place < impl.MaxSeen; place++ {
		l := someEntries(impl.MaxSeen)
		l[place].Id = l[place-1].Id
		checkWrongSeen(t, fmt.Sprint("alike at ", place), l)
		l = someEntries(impl.MaxSeen)
		l[place], l[place-1] = l[place-1], l[place]
		checkWrongSeen(t, fmt.Sprint("falling at ", place), l)
	}
}

// wrongIds are none that a right Event has; each that is not empty is greater than the Ids of someEntries.
func wrongIds() []string {
	return []string{"", longText(21), longText(impl.MaxBytes), longText(impl.MaxBytes + 1), "x y", "x ", "x\x00", "x\n", "x\x1f", "x\x7f", "x\x80", "x\xff", "xé", "x€", "\x7f", "\xff"}
}

func TestSeenIds(t *testing.T) {
	for _, id := range wrongIds() {
		checkWrongSeen(t, "alone "+told(id), idEntries(id))
		checkWrongSeen(t, "behind others "+told(id), append(someEntries(3), idEntries(id)...))
		checkWrongSeen(t, "ahead of others "+told(id), append(idEntries(id), idEntries("~~~")...))
	}
	for b := range 256 {
		for _, id := range []string{string([]byte{byte(b)}), "k" + string([]byte{byte(b)}), longText(19) + string([]byte{byte(b)})} {
			checkSeen(t, "an Id "+told(id), idEntries(id), b >= 33 && b <= 126)
		}
	}
	for size := range 23 {
		checkSeen(t, fmt.Sprint("an Id of ", size, " bytes"), idEntries(longText(size)), size >= 1 && size <= 20)
	}
}

func TestSeenNumbers(t *testing.T) {
	for place := range 4 {
		for _, minute := range append(farNumbers(), 0, 1, impl.MaxMinute-1, impl.MaxMinute, impl.MaxMinute+1) {
			l := someEntries(4)
			l[place].Minute = minute
			checkSeen(t, fmt.Sprint("a Minute of ", minute, " at ", place), l, inside(minute, 0, 121000000))
		}
		for _, sum := range append(farNumbers(), 0, 1, 1<<31, greatestSum-1, greatestSum, greatestSum+1) {
			l := someEntries(4)
			l[place].Sum = sum
			checkSeen(t, fmt.Sprint("a Sum of ", sum, " at ", place), l, inside(sum, 0, greatestSum))
		}
	}
	l := someEntries(impl.MaxSeen)
	l[impl.MaxSeen-1].Sum = greatestSum + 1
	checkWrongSeen(t, "the last of MaxSeen is not right", l)
}

// TestSeenTakeOrder asks which fault is told first.
func TestSeenTakeOrder(t *testing.T) {
	e := eventOf("k001")
	wrong := e
	wrong.Account = ""
	many := someEntries(impl.MaxList + 1)
	checkTakeCode(t, "too many", many, e, impl.ErrSize)
	checkTakeCode(t, "too many, and an event that is not right", many, wrong, impl.ErrSize)
	checkTakeCode(t, "MaxList entries", many[1:], e, impl.ErrForm)
	checkTakeCode(t, "one more than MaxSeen", many[:impl.MaxSeen+1], e, impl.ErrForm)
	checkTakeCode(t, "a list that is not right", idEntries("b", "a"), e, impl.ErrForm)
	checkTakeCode(t, "a list that is not right, with its Id", idEntries("k001", "a"), e, impl.ErrForm)
	checkTakeCode(t, "both not right", idEntries("b", "a"), wrong, impl.ErrForm)
	checkTakeCode(t, "an event that is not right, whose Id is there", someEntries(2), wrong, impl.ErrForm)
	checkTakeCode(t, "an event that is not right, and a full list", someEntries(impl.MaxSeen), wrong, impl.ErrForm)
}

// TestSeenTakeWrongEvents turns each field of an Event into what it may not be.
func TestSeenTakeWrongEvents(t *testing.T) {
	var wrong []impl.Event
	for _, id := range wrongIds() {
		wrong = append(wrong, eventOf(id))
	}
	for _, name := range wrongNames() {
		wrong = append(wrong, withField("Account", name), withField("Meter", name))
	}
	wrong = append(wrong, withField("Tag", longText(11)), withField("Tag", "a b"), withField("Tag", longText(impl.MaxBytes+1)), impl.Event{})
	for _, n := range append(farNumbers(), impl.MaxMinute+1, 1000000001) {
		late, much := someEvent(), someEvent()
		late.Minute, much.Amount = n, n
		if n > impl.MaxMinute || n < 0 {
			wrong = append(wrong, late)
		}
		if n > 1000000000 || n < 0 {
			wrong = append(wrong, much)
		}
	}
	for _, e := range wrong {
		for _, count := range []int{0, 1, impl.MaxSeen} {
			checkTakeCode(t, told(e), someEntries(count), e, impl.ErrForm)
		}
	}
}

// TestSeenTakePlaces takes one in each place of lists of each size.
func TestSeenTakePlaces(t *testing.T) {
	for count := range impl.MaxSeen {
		l := someEntries(count)
		checkTake(t, "the first one", l, eventOf("!"))
		checkTake(t, "the last one", l, eventOf("~"))
		for place := range count {
			checkTake(t, "behind one that begins it", l, eventOf(entryAt(place).Id+"!"))
		}
	}
	checkTake(t, "greater by a byte", idEntries("a", "c"), eventOf("b"))
	checkTake(t, "one that begins the next", idEntries("a", "bb"), eventOf("b"))
	checkTake(t, "a great letter", idEntries("B", "a"), eventOf("A"))
	checkTake(t, "between letters", idEntries("B", "a"), eventOf("C"))
	checkTake(t, "the greatest event", someEntries(39), greatEvent())
	checkTake(t, "an event of noughts", nil, impl.Event{Id: "!", Account: "a", Meter: "a"})
}

// turnedEvents are of the Id of e, each with one other field changed.
func turnedEvents(e impl.Event) []impl.Event {
	out := slices.Repeat([]impl.Event{e}, 8)
	out[0].Account += "x"
	out[1].Meter += "x"
	out[2].Minute++
	out[3].Minute--
	out[4].Amount++
	out[5].Amount--
	out[6].Tag += "x"
	out[7].Tag = ""
	return out
}

// TestSeenTakeTwice is promise 11 of one Event in lists of several sizes.
func TestSeenTakeTwice(t *testing.T) {
	for _, count := range []int{0, 1, 5, impl.MaxSeen - 1} {
		for _, id := range []string{"!", "k002!", "~"} {
			e := eventOf(id)
			l := checkTake(t, "once", someEntries(count), e)
			checkTakeCode(t, "twice", l, e, impl.ErrThere)
			is(t, "it is there", impl.SeenHas(l, id), true)
			for _, other := range turnedEvents(e) {
				checkTakeCode(t, told(other), l, other, impl.ErrClash)
			}
		}
	}
}

// TestSeenTakeByHalves lays Entries by hand, of which only one number is that of the Event.
func TestSeenTakeByHalves(t *testing.T) {
	e := someEvent()
	mine := wantEntry(e)
	checkTakeCode(t, "both", []impl.Entry{mine}, e, impl.ErrThere)
	minute, sum, both := mine, mine, mine
	minute.Minute++
	sum.Sum ^= 1
	both.Minute, both.Sum = 0, 0
	checkTakeCode(t, "another Minute", []impl.Entry{minute}, e, impl.ErrClash)
	checkTakeCode(t, "another Sum", []impl.Entry{sum}, e, impl.ErrClash)
	checkTakeCode(t, "both others", []impl.Entry{both}, e, impl.ErrClash)
	sum.Sum = mine.Sum ^ 1<<31
	checkTakeCode(t, "a Sum with its highest bit turned", []impl.Entry{sum}, e, impl.ErrClash)
	another := mine
	another.Id = "e0"
	checkTake(t, "another Id with its Minute and Sum", []impl.Entry{another}, e)
}

// TestSeenTakeFull fills a list: what is there is told ahead of ErrFull.
func TestSeenTakeFull(t *testing.T) {
	var l []impl.Entry
	for place := range impl.MaxSeen {
		l = checkTake(t, fmt.Sprint("one more of ", place), l, eventOf(entryAt(place*7%impl.MaxSeen).Id))
	}
	for place := range impl.MaxSeen {
		e := eventOf(entryAt(place).Id)
		checkTakeCode(t, "there in a full list", l, e, impl.ErrThere)
		e.Minute++
		checkTakeCode(t, "a clash in a full list", l, e, impl.ErrClash)
		checkTakeCode(t, "a new one to a full list", l, eventOf(e.Id+"!"), impl.ErrFull)
	}
	checkTakeCode(t, "the first one to a full list", l, eventOf("!"), impl.ErrFull)
	checkTakeCode(t, "the last one to a full list", l, eventOf("~"), impl.ErrFull)
	l = impl.SeenDrop(append(l[:39:39], impl.Entry{Id: "k039"}), 1)
	checkTake(t, "where one was dropped there is room", l, eventOf("k039"))
}

// drawnSeen takes drawn events, and tells the events whose Entries are in the list.
func drawnSeen(t *testing.T, draws *rand.Rand, count int) ([]impl.Entry, []impl.Event) {
	var l []impl.Entry
	var taken []impl.Event
	for len(taken) < count {
		e := anyEvent(draws)
		if slices.ContainsFunc(taken, func(ahead impl.Event) bool { return ahead.Id == e.Id }) {
			continue
		}
		l = checkTake(t, "drawn", l, e)
		taken = append(taken, e)
	}
	return l, taken
}

// TestSeenTakenOnce is promise 11 of drawn events: what was taken once is taken no more, also when others were taken between.
func TestSeenTakenOnce(t *testing.T) {
	draws := sameDraws()
	for range 30 {
		l, taken := drawnSeen(t, draws, 1+draws.Intn(impl.MaxSeen))
		for _, e := range taken {
			checkTakeCode(t, "taken once", l, e, impl.ErrThere)
			is(t, "it is there", impl.SeenHas(l, e.Id), true)
			e.Minute = (e.Minute + 1 + draws.Int63n(impl.MaxMinute)) % (impl.MaxMinute + 1)
			checkTakeCode(t, "of another minute", l, e, impl.ErrClash)
		}
	}
}

func TestSeenHas(t *testing.T) {
	l := idEntries("a", "ab", "b", longText(20))
	for _, id := range []string{"a", "ab", "b", longText(20)} {
		is(t, "there "+id, impl.SeenHas(l, id), true)
	}
	missing := append(wrongIds(), "!", "A", "aa", "abc", "ac", "ba", "c", longText(19), "~", "a\x00", " a")
	for _, id := range missing {
		is(t, "not there "+told(id), impl.SeenHas(l, id), false)
		is(t, "not in none "+told(id), impl.SeenHas(nil, id), false)
		is(t, "not in a full list "+told(id), impl.SeenHas(someEntries(impl.MaxSeen), id), false)
	}
	for _, wrong := range [][]impl.Entry{idEntries("b", "a"), idEntries("a", "a"), {{Id: "a", Minute: -1}}, {{Id: "a", Sum: -1}}, someEntries(41), someEntries(401)} {
		is(t, "a list that is not right", impl.SeenHas(wrong, wrong[0].Id), false)
	}
	for _, size := range []int{impl.MaxBytes, impl.MaxBytes + 1} {
		is(t, "a long text that is there, were the list right", impl.SeenHas(idEntries(longText(size)), longText(size)), false)
	}
}

func TestSeenDrop(t *testing.T) {
	l := []impl.Entry{{Id: "a", Minute: 50}, {Id: "b", Minute: 10}, {Id: "c", Minute: 0}, {Id: "d", Minute: 50}, {Id: "e", Minute: impl.MaxMinute}}
	all, none := "abcde", ""
	by := map[int64]string{
		math.MinInt64: all, math.MinInt64 + 1: all, -1: all, 0: all, 1: "abde", 10: "abde", 11: "ade", 50: "ade", 51: "e",
		impl.MaxMinute: "e", impl.MaxMinute + 1: none, math.MaxInt64 - 1: none, math.MaxInt64: none,
	}
	for before, want := range by {
		got := ""
		for _, entry := range impl.SeenDrop(l, before) {
			got += entry.Id
		}
		is(t, fmt.Sprint("what stays from ", before), got, want)
		checkDrop(t, "by hand", l, before)
		is(t, "none of none", len(impl.SeenDrop(nil, before)), 0)
	}
	draws := sameDraws()
	for range 30 {
		drawn, events := drawnSeen(t, draws, 1+draws.Intn(impl.MaxSeen))
		for _, e := range events {
			for _, before := range []int64{e.Minute - 1, e.Minute, e.Minute + 1} {
				checkDrop(t, "drawn", drawn, before)
			}
		}
	}
}

// spoilEntries turns all that a list holds, and what room it has behind its end.
func spoilEntries(l []impl.Entry) {
	room := l[:cap(l)]
	for i := range room {
		room[i] = impl.Entry{Id: "spoiled", Minute: -1, Sum: -1}
	}
}

// TestSeenSharesNothing turns what was answered, and what was handed in: neither may be seen elsewhere.
func TestSeenSharesNothing(t *testing.T) {
	for _, id := range []string{"!", "k002!", "~"} {
		l := someEntries(5)
		want := checkTake(t, "as it should be", someEntries(5), eventOf(id))
		first, second := impl.SeenTake(l, eventOf(id)).Seen, impl.SeenTake(l, eventOf(id)).Seen
		spoilEntries(first)
		is(t, "the list handed in", l, someEntries(5))
		is(t, "taken beside it", second, want)
		spoilEntries(l)
		is(t, "taken ahead of that", second, want)
	}
	for _, before := range []int64{math.MinInt64, 0, 37, 38} {
		l := someEntries(5)
		want := wantDrop(someEntries(5), before)
		first, second := impl.SeenDrop(l, before), impl.SeenDrop(l, before)
		spoilEntries(first)
		is(t, "the list handed in to be dropped from", l, someEntries(5))
		spoilEntries(l)
		is(t, "dropped beside it", second, want)
	}
}

// TestSeenLeavesRoomBehind hands in a list that has room behind its end: nothing may be laid there.
func TestSeenLeavesRoomBehind(t *testing.T) {
	room := append(someEntries(5), slices.Repeat([]impl.Entry{{Id: "behind"}}, 50)...)
	kept := slices.Clone(room)
	for _, id := range []string{"!", "k002!", "~"} {
		checkTake(t, "with room behind", room[:5], eventOf(id))
		is(t, "the room behind", room, kept)
	}
	for _, before := range []int64{0, 37, 1000} {
		checkDrop(t, "with room behind", room[:5], before)
		is(t, "the room behind what is dropped", room, kept)
	}
}

func TestSeenTextsAreNew(t *testing.T) {
	e := eventOf(strings.Repeat("m", 20))
	l := idEntries(strings.Repeat("c", 20), strings.Repeat("x", 20))
	got := impl.SeenTake(l, e).Seen
	is(t, "the Id of the event", sameBytes(got[1].Id, e.Id), false)
	is(t, "the Id ahead", sameBytes(got[0].Id, l[0].Id), false)
	is(t, "the Id behind", sameBytes(got[2].Id, l[1].Id), false)
	is(t, "an Id that stays", sameBytes(impl.SeenDrop(l, 0)[0].Id, l[0].Id), false)
}
