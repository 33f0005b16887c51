package tests

import (
	"encoding/binary"
	"fmt"
	"hash/crc32"
	"math"
	"math/rand"
	"reflect"
	"slices"
	"strings"
	"testing"

	"loop.example/g00562/impl"
)

// logged is a call that a store can keep: the bytes that are sealed of it, what it tells of an engine, and how a store is asked for it.
type logged struct {
	name   string
	sealed string
	on     func(impl.Engine) impl.EngineOut
	keep   func(impl.Store, impl.Engine) impl.StoreOut
}

// batchText is a batch of these bytes, whether they are one or not.
func batchText(text string) logged {
	return logged{
		name:   "batch",
		sealed: "B" + text,
		on:     func(e impl.Engine) impl.EngineOut { return impl.Ingest(e, text) },
		keep:   func(s impl.Store, e impl.Engine) impl.StoreOut { return impl.StoreBatch(s, e, text) },
	}
}

// batchOf is a batch of right events.
func batchOf(events ...impl.Event) logged {
	text := nums(int64(len(events)))
	for _, x := range events {
		text += eventBytes(x)
	}
	return batchText(text)
}

// tickOf is a tick of a source, whether there is one or not.
func tickOf(source string, mark int64) logged {
	return logged{
		name:   "tick",
		sealed: "T" + textBytes(source) + nums(mark),
		on:     func(e impl.Engine) impl.EngineOut { return impl.Tick(e, source, mark) },
		keep:   func(s impl.Store, e impl.Engine) impl.StoreOut { return impl.StoreTick(s, e, source, mark) },
	}
}

// closing closes what is due.
func closing() logged {
	return logged{name: "close", sealed: "C", on: impl.CloseDue, keep: impl.StoreClose}
}

// sealedRecord lays a record as chapter 12 says, whatever is sealed in it.
func sealedRecord(sealed string) string {
	return textBytes(sealed + fourBytes(crc32.ChecksumIEEE([]byte(sealed))))
}

// logOf lays the records of calls.
func logOf(calls ...logged) string {
	out := ""
	for _, call := range calls {
		out += sealedRecord(call.sealed)
	}
	return out
}

// path is where a log stands ahead of its first record, and behind each: the places, and the engines there.
type path struct {
	places  []int64
	engines []impl.Engine
}

// pathOf makes calls one by one, each on the engine that the one ahead told; none of them may tell a code.
func pathOf(t *testing.T, e impl.Engine, calls ...logged) path {
	t.Helper()
	out := path{places: []int64{0}, engines: []impl.Engine{plain(e)}}
	for i, call := range calls {
		got := call.on(out.end())
		is(t, fmt.Sprint("the call ", i, " of a log"), got.Code, int64(impl.OK))
		out.places = append(out.places, int64(len(logOf(calls[:i+1]...))))
		out.engines = append(out.engines, plain(got.Engine))
	}
	return out
}

// end is the engine behind the last record.
func (p path) end() impl.Engine {
	return p.engines[len(p.engines)-1]
}

// within is how many whole records the first so many bytes have.
func (p path) within(bytes int64) int {
	count := 0
	for count+1 < len(p.places) && p.places[count+1] <= bytes {
		count++
	}
	return count
}

// someCalls are taken by someEngine, in this order, and each of them alone.
func someCalls() []logged {
	last := someUse("last")
	last.Account, last.Meter, last.Minute = "cyd", "net", wantStart(602)
	return []logged{
		batchOf(someUse("a"), someUse("b")),
		tickOf("west", wantStart(601)+50),
		closing(),
		batchOf(someUse("a"), last),
		tickOf("east", wantStart(602)),
		batchOf(),
		tickOf("west", wantStart(602)),
		closing(),
		closing(),
	}
}

// eachCall is one of each kind; someEngine takes them.
func eachCall() []logged {
	return []logged{batchOf(someUse("new"), someUse("more")), tickOf("east", impl.MaxMinute), closing()}
}

// wrongEngines are some that are not right.
func wrongEngines() []impl.Engine {
	var out []impl.Engine
	for i := range 6 {
		e := someEngine()
		switch i {
		case 0:
			e = impl.Engine{}
		case 1:
			e.Freed = -1
		case 2:
			e.Sources = nil
		case 3:
			e.Catalog.Meters[2].Agg = 0
		case 4:
			e.Seen[1].Id = e.Seen[0].Id
		case 5:
			e.Docs = e.Docs[1:]
		}
		out = append(out, e)
	}
	return out
}

// bothGiven is what a call on a store and an engine tells: the engine must be left as it was, and the answer must be new memory.
func bothGiven[T any](t *testing.T, what string, s impl.Store, e impl.Engine, call func(impl.Store, impl.Engine) T) T {
	t.Helper()
	return asked(t, what, e, func(e impl.Engine) T {
		got := call(s, e)
		isNew(t, what, got, s)
		return got
	})
}

// checkKept asks a call of a store, on the engine that its log leads to: what that engine tells is told, and the record stands at the end.
func checkKept(t *testing.T, what string, s impl.Store, e impl.Engine, now impl.Engine, call logged) impl.StoreOut {
	t.Helper()
	got := bothGiven(t, what, s, e, call.keep)
	tells := call.on(now)
	if tells.Code != impl.OK {
		is(t, what, got, impl.StoreOut{Code: tells.Code})
		return got
	}
	log := s.Log + sealedRecord(call.sealed)
	is(t, what, got, plain(impl.StoreOut{Store: impl.Store{Log: log, Synced: int64(len(log))}, Counts: tells.Counts, Docs: tells.Docs}))
	return got
}

// checkNotKept asks all calls of a store and an engine of which one is not right: nothing may stand beside the code.
func checkNotKept(t *testing.T, what string, s impl.Store, e impl.Engine) {
	t.Helper()
	is(t, what+": not right", bothGiven(t, what, s, e, impl.StoreRight), false)
	for _, call := range append(eachCall(), batchText("x"), batchText(longText(impl.MaxBytes)), tickOf("none", -1), tickOf(longText(impl.MaxBytes), 5)) {
		is(t, what+": "+call.name, bothGiven(t, what, s, e, call.keep), impl.StoreOut{Code: impl.ErrForm})
	}
}

// checkThrough asks all calls that go through a log, of a right engine: at is where it is no more gone on, and then is the engine there.
func checkThrough(t *testing.T, what string, e impl.Engine, log string, at int64, then impl.Engine) {
	t.Helper()
	replay := func(s impl.Store, e impl.Engine) impl.ReplayOut { return impl.Replay(e, s.Log) }
	is(t, what, bothGiven(t, what, impl.Store{Log: log}, e, replay), impl.ReplayOut{Engine: plain(then), At: at})
	size := int64(len(log))
	found := impl.Store{Log: log[:at], Synced: at}
	for _, synced := range []int64{-1, 0, at, size, size + 1} {
		s := impl.Store{Log: log, Synced: synced}
		right := at == size && inside(synced, 0, size)
		is(t, fmt.Sprint(what, ": right with ", synced), impl.StoreRight(s, e), right)
		is(t, fmt.Sprint(what, ": found again with ", synced), bothGiven(t, what, s, e, impl.StoreRecover), found)
		if !right {
			is(t, fmt.Sprint(what, ": closed with ", synced), impl.StoreClose(s, e), impl.StoreOut{Code: impl.ErrForm})
		}
	}
	is(t, what+": what is found again is right", impl.StoreRight(found, e), true)
}

// checkStops lays a text that is no record, alone, behind records, and ahead of others: it is gone through up to it, and not beyond.
func checkStops(t *testing.T, what string, wrong string) {
	t.Helper()
	calls := eachCall()
	for count := range len(calls) + 1 {
		ahead := pathOf(t, someEngine(), calls[:count]...)
		log := logOf(calls[:count]...)
		checkThrough(t, fmt.Sprint(what, " behind ", count), someEngine(), log+wrong, int64(len(log)), ahead.end())
		checkThrough(t, fmt.Sprint(what, " ahead of others, behind ", count), someEngine(), log+wrong+logOf(calls...), int64(len(log)), ahead.end())
	}
}

// TestStoreByHand writes each byte of three records out.
func TestStoreByHand(t *testing.T) {
	e := impl.DeskEngine()
	closed := "\x0aC\xa7\xff\xd7\x3d"
	ticked := "\x16T\x08east\x0a\x09\x7b\xdc\x89"
	batch := "\x0cB\x00\x78\x3f\x96\x83"
	one := impl.StoreClose(impl.Store{}, e)
	is(t, "closed", one, impl.StoreOut{Store: impl.Store{Log: closed, Synced: 6}})
	two := impl.StoreTick(one.Store, e, "east", 5)
	is(t, "ticked", two, impl.StoreOut{Store: impl.Store{Log: closed + ticked, Synced: 18}})
	three := impl.StoreBatch(two.Store, e, "\x00")
	is(t, "a batch of none", three, impl.StoreOut{Store: impl.Store{Log: closed + ticked + batch, Synced: 25}})
	want := impl.DeskEngine()
	want.Sources[0].Mark = 5
	is(t, "gone through", impl.Replay(e, three.Store.Log), impl.ReplayOut{Engine: want, At: 25})
	is(t, "right", impl.StoreRight(three.Store, e), true)
	torn := impl.StoreCrash(impl.Store{Log: three.Store.Log, Synced: 6}, 13)
	is(t, "a crash", torn, impl.Store{Log: closed + ticked + "\x0c", Synced: 19})
	is(t, "found again", impl.StoreRecover(torn, e), two.Store)
}

// TestStoreMonth goes through a month: what is used is billed when both sources say that it is over, and a crash loses nothing of it.
func TestStoreMonth(t *testing.T) {
	e, s := impl.DeskEngine(), impl.Store{}
	use := impl.Event{Id: "e1", Account: "bob", Meter: "cpu", Minute: wantStart(600), Amount: 60}
	other := use
	other.Amount++
	steps := []struct {
		call   logged
		counts impl.Counts
		docs   []impl.Doc
	}{
		{batchOf(use), impl.Counts{Took: 1}, nil},
		{batchOf(use, other), impl.Counts{Twice: 1, Clash: 1}, nil},
		{tickOf("east", wantStart(601)), impl.Counts{}, nil},
		{closing(), impl.Counts{}, nil},
		{tickOf("west", wantStart(601)), impl.Counts{}, nil},
		{closing(), impl.Counts{}, ledgerAs("bob 600 0 cpu=2500")},
		{closing(), impl.Counts{}, nil},
		{batchOf(impl.Event{Id: "e2", Account: "bob", Meter: "cpu", Minute: wantStart(601) - 1, Amount: 10}), impl.Counts{Took: 1}, nil},
		{batchOf(impl.Event{Id: "e3", Account: "bob", Meter: "cpu", Minute: wantStart(601) - 2881, Amount: 10}), impl.Counts{Late: 1}, nil},
		{closing(), impl.Counts{}, ledgerAs("bob 600 1 cpu=500")},
	}
	for i, step := range steps {
		got := plain(step.call.keep(s, e))
		is(t, fmt.Sprint("step ", i), []any{got.Code, got.Counts, got.Docs}, []any{int64(impl.OK), step.counts, step.docs})
		s = impl.StoreRecover(impl.StoreCrash(got.Store, 0), e)
		is(t, fmt.Sprint("step ", i, ": found again"), s, got.Store)
	}
	is(t, "the documents", impl.Replay(e, s.Log).Engine.Docs, ledgerAs("bob 600 0 cpu=2500", "bob 600 1 cpu=500"))
}

func TestReplayRefuses(t *testing.T) {
	replay := func(e impl.Engine, log string) impl.ReplayOut {
		return asked(t, "replay of "+told(log), e, func(e impl.Engine) impl.ReplayOut { return impl.Replay(e, log) })
	}
	good := logOf(eachCall()...)
	for _, e := range append(wrongEngines(), someEngine()) {
		for _, log := range []string{longText(impl.MaxBytes + 1), longText(2 * impl.MaxBytes), good + longText(impl.MaxBytes+1-len(good)), filledLog(impl.MaxBytes + 1)} {
			is(t, "too long", replay(e, log), impl.ReplayOut{Code: impl.ErrSize})
		}
	}
	for _, e := range wrongEngines() {
		for _, log := range []string{"", good, "x", longText(impl.MaxBytes), filledLog(impl.MaxBytes)} {
			is(t, "an engine that is not right", replay(e, log), impl.ReplayOut{Code: impl.ErrForm})
		}
	}
	is(t, "MaxBytes bytes that are no record", replay(someEngine(), longText(impl.MaxBytes)), impl.ReplayOut{Engine: someEngine()})
	is(t, "MaxBytes bytes, records first", replay(someEngine(), good+longText(impl.MaxBytes-len(good))).At, int64(len(good)))
}

func TestReplayOfNone(t *testing.T) {
	for _, e := range []impl.Engine{someEngine(), fullEngine(), impl.DeskEngine(), roomy(someEngine()), {Sources: sourcesOf("a")}} {
		checkThrough(t, "the empty log", e, "", 0, e)
	}
}

func TestReplayOfEachKind(t *testing.T) {
	for _, call := range someCalls() {
		for _, count := range []int{1, 2, 5} {
			calls := slices.Repeat([]logged{call}, count)
			log := logOf(calls...)
			checkThrough(t, fmt.Sprint(count, " of ", call.name), someEngine(), log, int64(len(log)), pathOf(t, someEngine(), calls...).end())
		}
	}
}

// TestReplayOfMany: what is ahead counts for what is behind.
func TestReplayOfMany(t *testing.T) {
	calls := someCalls()
	all := pathOf(t, someEngine(), calls...)
	for count := range len(calls) + 1 {
		log := logOf(calls[:count]...)
		checkThrough(t, fmt.Sprint("the first ", count), someEngine(), log, all.places[count], all.engines[count])
	}
	e := all.end()
	is(t, "marks", e.Sources, []impl.Source{{Name: "east", Mark: wantStart(602)}, {Name: "west", Mark: wantStart(602)}})
	is(t, "windows", len(e.Windows), 3)
	is(t, "docs", len(e.Docs), 7)
	for _, log := range []string{filledLog(impl.MaxBytes), filledLog(impl.MaxBytes - 1)} {
		checkThrough(t, "a full log", impl.DeskEngine(), log, int64(len(log)), impl.DeskEngine())
	}
}

// TestReplayCutOff cuts a record at each of its bytes.
func TestReplayCutOff(t *testing.T) {
	calls := eachCall()
	for _, call := range calls {
		record := logOf(call)
		for end := 1; end < len(record); end++ {
			checkStops(t, fmt.Sprint("the first ", end, " bytes of a ", call.name), record[:end])
		}
		for from := 1; from < len(record); from++ {
			ahead := logOf(calls...)
			got := impl.Replay(someEngine(), ahead+record[from:])
			is(t, fmt.Sprint("without the first ", from, " bytes of a ", call.name), got.At, int64(len(ahead)))
		}
	}
}

// TestReplayTurned turns each byte of a record in each way.
func TestReplayTurned(t *testing.T) {
	calls := eachCall()
	e := someEngine()
	for place, call := range calls {
		record := logOf(call)
		ahead := pathOf(t, e, calls[:place]...)
		log := logOf(calls[:place]...)
		for at := range record {
			for by := 1; by < 256; by++ {
				wrong := log + turned(record, at, byte(by))
				got := plain(impl.Replay(e, wrong+logOf(calls...)))
				is(t, fmt.Sprint("the byte ", at, " of a ", call.name, " turned by ", by), got, impl.ReplayOut{Engine: ahead.end(), At: int64(len(log))})
			}
			checkStops(t, fmt.Sprint("the byte ", at, " of a ", call.name, " turned"), turned(record, at, 1))
		}
	}
}

// TestReplaySeals: a seal has four bytes at least, and they are the CRC, the lowest first.
func TestReplaySeals(t *testing.T) {
	for _, text := range []string{"", "C", "\x00", "\x00\x00\x00", "abc", "C\x00\x00\x00\x00", "C\xff\xff\xff\xff", "C\x3d\xd7\xff\xa7", "C\xa7\xff\xd7", "\xa7\xff\xd7\x3dC"} {
		checkStops(t, fmt.Sprintf("a text %q", text), textBytes(text))
	}
	for _, call := range eachCall() {
		checkStops(t, "a seal of nothing but the "+call.name, textBytes(call.sealed))
		checkStops(t, "no text round the "+call.name, impl.Seal(call.sealed))
		checkStops(t, "two seals round the "+call.name, sealedRecord(impl.Seal(call.sealed)))
		checkStops(t, "two texts round the "+call.name, textBytes(sealedRecord(call.sealed)))
		checkStops(t, "nothing round the "+call.name, call.sealed)
	}
}

// TestReplayFirstBytes lays each byte but the three ahead of what each kind has behind it.
func TestReplayFirstBytes(t *testing.T) {
	checkStops(t, "no byte at all", sealedRecord(""))
	for b := range 256 {
		first := string([]byte{byte(b)})
		if strings.Contains("BTC", first) {
			continue
		}
		rests := []string{"", "\x00", first}
		for _, call := range eachCall() {
			rests = append(rests, call.sealed[1:], call.sealed)
		}
		for _, rest := range rests {
			ahead := logOf(eachCall()...)
			got := impl.Replay(someEngine(), ahead+sealedRecord(first+rest)+ahead)
			is(t, fmt.Sprintf("the byte %d ahead of %q", b, rest), got.At, int64(len(ahead)))
		}
	}
	for _, first := range []string{"\x00", "A", "D", "S", "U", "b", "c", "t", "\xc2", "\xff"} {
		checkStops(t, fmt.Sprintf("the byte %q", first), sealedRecord(first))
	}
	calls := eachCall()
	for _, one := range calls {
		for _, two := range calls {
			if one.name != two.name {
				checkStops(t, "the byte of a "+one.name+" ahead of a "+two.name, sealedRecord(one.sealed[:1]+two.sealed))
			}
		}
	}
}

func TestReplayLeftOver(t *testing.T) {
	for _, call := range eachCall() {
		for _, more := range []string{"\x00", "\x02", "C", "\x80", call.sealed, longText(100)} {
			checkStops(t, fmt.Sprintf("%q behind a %s", more, call.name), sealedRecord(call.sealed+more))
		}
	}
	checkStops(t, "a byte between two records", "\x00"+logOf(eachCall()...))
}

// TestReplayWrongTicks: what is behind the byte 84 is one text and one number, as PutText and PutNum tell them.
func TestReplayWrongTicks(t *testing.T) {
	mark := int64(impl.MaxMinute)
	right := "T" + textBytes("east") + nums(mark)
	for end := 1; end < len(right); end++ {
		checkStops(t, fmt.Sprint("the first ", end, " bytes of a tick"), sealedRecord(right[:end]))
	}
	number := nums(mark)
	last := number[len(number)-1]
	wrong := map[string]string{
		"a length of more bytes than are needed": "T\x88\x00east" + number,
		"a length of far more bytes":             "T\x88\x80\x80\x00east" + number,
		"a mark of more bytes than are needed":   "T" + textBytes("east") + number[:len(number)-1] + string([]byte{last | 128, 0}),
		"a mark that goes on":                    "T" + textBytes("east") + strings.Repeat("\x80", 9),
		"a mark of ten bytes that goes on":       "T" + textBytes("east") + strings.Repeat("\x80", 10),
		"a tenth byte above 1":                   "T" + textBytes("east") + strings.Repeat("\x80", 9) + "\x02",
		"a length below 0":                       "T" + nums(-1) + "east" + number,
		"a length of one too many":               "T" + nums(int64(5+len(number))) + "east" + number,
		"a length of more than MaxBytes":         "T" + nums(impl.MaxBytes+1) + "east" + number,
		"a length of one more":                   "T" + nums(5) + "east" + number,
		"a length of one less":                   "T" + nums(3) + "east" + number,
		"the mark ahead of the source":           "T" + number + textBytes("east"),
		"no length":                              "T" + "east" + number,
		"two marks":                              right + number,
		"two ticks":                              right + right,
		"two sources":                            "T" + textBytes("east") + textBytes("west") + number,
	}
	for what, sealed := range wrong {
		checkStops(t, what, sealedRecord(sealed))
	}
}

// TestReplayWrongLengths: how long a record is stands ahead of it as PutNum tells it.
func TestReplayWrongLengths(t *testing.T) {
	closed := impl.Seal("C")
	wrong := map[string]string{
		"more bytes than are needed": "\x8a\x00" + closed,
		"far more bytes":             "\x8a\x80\x80\x80\x80\x80\x80\x80\x80\x00" + closed,
		"a length that goes on":      strings.Repeat("\x8a", 9) + closed,
		"a tenth byte above 1":       strings.Repeat("\x8a", 9) + "\x02" + closed,
		"eleven bytes":               strings.Repeat("\x8a", 10) + "\x00" + closed,
		"a length below 0":           nums(-5) + closed,
		"the least length":           nums(math.MinInt64) + closed,
		"the greatest length":        nums(math.MaxInt64) + closed,
		"more than MaxBytes":         nums(impl.MaxBytes+1) + closed,
		"MaxBytes":                   nums(impl.MaxBytes) + closed,
		"one less":                   nums(4) + closed,
		"one more":                   nums(6) + closed,
		"nought":                     nums(0) + closed,
	}
	for what, record := range wrong {
		checkStops(t, what, record)
	}
}

func TestReplayWrongBatches(t *testing.T) {
	right := batchOf(someUse("new"), someUse("more")).sealed
	for end := 1; end < len(right); end++ {
		checkStops(t, fmt.Sprint("the first ", end, " bytes of a batch"), sealedRecord(right[:end]))
	}
	for _, x := range wrongEvents() {
		for _, log := range []string{logOf(batchOf(x)), logOf(batchOf(someUse("new"), x))} {
			if len(log) <= impl.MaxBytes {
				is(t, "an event that is not right "+told(x), impl.Replay(someEngine(), log+logOf(closing())), impl.ReplayOut{Engine: someEngine()})
			}
		}
	}
	many := slices.Repeat([]impl.Event{someUse("new")}, impl.MaxBatch+1)
	checkStops(t, "more than MaxBatch events", logOf(batchOf(many...)))
	checkStops(t, "a count of more bytes than are needed", sealedRecord("B\x80\x00"))
	checkStops(t, "a count below 0", sealedRecord("B"+nums(-1)))
	checkStops(t, "a count of one that is not there", sealedRecord("B"+nums(1)))
	checkStops(t, "bytes behind a batch of none", sealedRecord("B\x00\x00"))
	x := eventBytes(someUse("new"))
	checkStops(t, "an id's length of more bytes than are needed", sealedRecord("B\x02\x86\x00"+x[1:]))
	log := logOf(batchOf(many[1:]...))
	checkThrough(t, "MaxBatch events", someEngine(), log, int64(len(log)), pathOf(t, someEngine(), batchOf(many[1:]...)).end())
}

// TestReplayCallCodes: records that are whole, but whose call tells a code.
func TestReplayCallCodes(t *testing.T) {
	for _, source := range append(wrongNames(), "eas", "east0", "north", longText(20), longText(2000)) {
		if len(source) <= 2000 {
			checkStops(t, "no source "+told(source), logOf(tickOf(source, impl.MaxMinute)))
		}
	}
	for _, mark := range append(farNumbers(), 0, wantStart(601)-1, impl.MaxMinute+1) {
		checkStops(t, fmt.Sprint("west to ", mark), logOf(tickOf("west", mark)))
	}
	back := []logged{tickOf("west", wantStart(601)+50), tickOf("west", wantStart(601)+49), closing()}
	at := int64(len(logOf(back[0])))
	checkThrough(t, "back from where a record ahead brought it", someEngine(), logOf(back...), at, pathOf(t, someEngine(), back[0]).end())
	alike := []logged{back[0], back[0], closing()}
	checkThrough(t, "to where it is", someEngine(), logOf(alike...), int64(len(logOf(alike...))), pathOf(t, someEngine(), alike...).end())
}

// wideEngine is right, and not right any more when it is closed: the document that is issued then has more lines than may be.
func wideEngine() impl.Engine {
	e := emptyEngine(wantStart(601))
	e.Windows = []impl.Window{windowIn("ann", 600, "cpu", 5)}
	e.Docs = ledgerAs("ann 600 0 a=1 b=2 c=3 d=4 e=5 f=6")
	return e
}

// TestReplayNotRightAnyMore: each call tells a code of an engine that is not right, also of one to which records led.
func TestReplayNotRightAnyMore(t *testing.T) {
	e := wideEngine()
	then := impl.CloseDue(e).Engine
	is(t, "right, and not right any more", []bool{impl.EngineRight(e), impl.EngineRight(then)}, []bool{true, false})
	closed := logOf(closing())
	s := impl.Store{Log: closed, Synced: 6}
	checkThrough(t, "closed", e, closed, 6, then)
	for _, call := range []logged{closing(), batchOf(), tickOf("s0", impl.MaxMinute)} {
		checkThrough(t, "closed, then a "+call.name, e, closed+logOf(call), 6, then)
		is(t, "a "+call.name+" behind it", checkKept(t, "a "+call.name+" behind it", s, e, then, call).Code, int64(impl.ErrForm))
	}
}

// readAhead reads a text as PutText tells it, and what is behind it.
func readAhead(text string) (string, string, bool) {
	n, size := binary.Varint([]byte(text))
	if size <= 0 || text[:size] != string(binary.AppendVarint(nil, n)) || !inside(n, 0, int64(len(text)-size)) {
		return "", "", false
	}
	return text[size : size+int(n)], text[size+int(n):], true
}

// readCall reads what is sealed in a record.
func readCall(sealed string) (logged, bool) {
	if sealed == "C" {
		return closing(), true
	}
	if strings.HasPrefix(sealed, "B") {
		return batchText(sealed[1:]), true
	}
	if !strings.HasPrefix(sealed, "T") {
		return logged{}, false
	}
	source, rest, ok := readAhead(sealed[1:])
	mark, size := binary.Varint([]byte(rest))
	if !ok || size <= 0 || rest != string(binary.AppendVarint(nil, mark)) {
		return logged{}, false
	}
	return tickOf(source, mark), true
}

// wantReplay is what Replay tells of a right engine and a log of any bytes.
func wantReplay(e impl.Engine, log string) impl.ReplayOut {
	out := impl.ReplayOut{Engine: plain(e)}
	for rest := log; rest != ""; {
		text, behind, ok := readAhead(rest)
		if !ok || len(text) < 4 || text[len(text)-4:] != fourBytes(crc32.ChecksumIEEE([]byte(text[:len(text)-4]))) {
			break
		}
		call, ok := readCall(text[:len(text)-4])
		if !ok {
			break
		}
		tells := call.on(out.Engine)
		if tells.Code != impl.OK {
			break
		}
		rest = behind
		out = impl.ReplayOut{Engine: plain(tells.Engine), At: int64(len(log) - len(rest))}
	}
	return out
}

// anyBytesOf draws what may be sealed: some of it a call, some of it nearly one.
func anyBytesOf(draws *rand.Rand) string {
	source := []string{"east", "west"}[draws.Intn(2)]
	sealed := []string{"C", "B\x00", batchOf(anyUse(draws, 20), anyUse(draws, 20)).sealed, tickOf(source, anyMark(draws)).sealed}[draws.Intn(4)]
	switch draws.Intn(25) {
	case 0:
		return sealed + anyText(draws, 1+draws.Intn(2))
	case 1:
		return sealed[:draws.Intn(len(sealed))]
	case 2:
		return anyText(draws, draws.Intn(4))
	case 3:
		return tickOf("none", anyMark(draws)).sealed
	case 4:
		return tickOf(source, anyNumber(draws)).sealed
	}
	return sealed
}

// TestReplayOfAnyLog draws logs of records, some of them wrong, and turns or cuts some of these.
func TestReplayOfAnyLog(t *testing.T) {
	draws := sameDraws()
	whole, stopped := 0, 0
	for i := range 1500 {
		var records []string
		for range draws.Intn(7) {
			records = append(records, sealedRecord(anyBytesOf(draws)))
		}
		log := strings.Join(records, "")
		if at := draws.Intn(len(log) + 1); i%5 == 0 {
			log = log[:at]
		} else if i%5 == 1 && at < len(log) {
			log = turned(log, at, byte(1+draws.Intn(255)))
		} else if i%5 == 2 {
			log = log[at:]
		}
		want := wantReplay(impl.DeskEngine(), log)
		checkThrough(t, fmt.Sprintf("log %d", i), impl.DeskEngine(), log, want.At, want.Engine)
		if log != "" && want.At == int64(len(log)) {
			whole++
		}
		if want.At > 0 && want.At < int64(len(log)) {
			stopped++
		}
	}
	is(t, "some whole, and some stopped", []bool{whole > 100, stopped > 100}, []bool{true, true})
	for i := range 500 {
		log := anyText(draws, draws.Intn(300))
		want := wantReplay(impl.DeskEngine(), log)
		checkThrough(t, fmt.Sprintf("any bytes %d", i), impl.DeskEngine(), log, want.At, want.Engine)
	}
}

// otherUse is of a meter that nobody sells: it is kept, and the engine goes on as it was. Its record is long.
func otherUse() impl.Event {
	x := greatEvent()
	x.Minute = impl.MaxMinute
	return x
}

// filledLog has so many bytes, 40 at least, of records that every right engine takes; it leaves the desk's engine as it was.
func filledLog(size int) string {
	out := ""
	great := logOf(batchOf(slices.Repeat([]impl.Event{otherUse()}, impl.MaxBatch)...))
	for size-len(out) > len(great)+40 {
		out += great
	}
	for (size-len(out))%6 != 0 {
		out += logOf(batchOf()) // seven bytes
	}
	return out + strings.Repeat(logOf(closing()), (size-len(out))/6)
}

// synced is a store all of whose log is synced.
func synced(log string) impl.Store {
	return impl.Store{Log: log, Synced: int64(len(log))}
}

func TestStoresThatAreRight(t *testing.T) {
	for _, size := range []int{0, 40, 41, 42, 43, 44, 45, 46, impl.MaxBytes - 1, impl.MaxBytes, impl.MaxBytes + 1, 2 * impl.MaxBytes} {
		log := ""
		if size > 0 {
			log = filledLog(size)
		}
		is(t, "its size", len(log), size)
		n := int64(size)
		for _, place := range append(farNumbers(), -1, 0, 1, n/2, n-1, n, n+1, impl.MaxBytes, impl.MaxBytes+1) {
			s := impl.Store{Log: log, Synced: place}
			right := size <= 8000 && inside(place, 0, n)
			is(t, fmt.Sprint(size, " bytes, synced ", place), impl.StoreRight(s, impl.DeskEngine()), right)
			is(t, fmt.Sprint(size, " bytes, synced ", place, ": closed"), impl.StoreClose(s, impl.DeskEngine()).Code == impl.ErrForm, !right)
		}
		for _, e := range wrongEngines() {
			is(t, "an engine that is not right", impl.StoreRight(synced(log), e), false)
		}
	}
	s := synced(logOf(eachCall()...))
	is(t, "right for its engine", impl.StoreRight(s, someEngine()), true)
	is(t, "not right for one without that source", impl.StoreRight(s, emptyEngine(5)), false)
}

func TestStoreCallsRefuse(t *testing.T) {
	good := logOf(eachCall()...)
	n := int64(len(good))
	for _, e := range wrongEngines() {
		for _, s := range []impl.Store{{}, synced(good), {Synced: -1}, synced("x")} {
			checkNotKept(t, "an engine that is not right", s, e)
		}
	}
	for _, place := range append(farNumbers(), n+1) {
		checkNotKept(t, fmt.Sprint("synced ", place), impl.Store{Log: good, Synced: place}, someEngine())
	}
	for _, log := range []string{"x", good + "x", good[:n-1], good[1:], good + sealedRecord("D"), good + logOf(tickOf("none", 5)), turned(good, 20, 1)} {
		checkNotKept(t, "not gone through "+told(log), synced(log), someEngine())
		checkNotKept(t, "not gone through, nothing synced "+told(log), impl.Store{Log: log}, someEngine())
		checkNotKept(t, "not gone through, synced beyond "+told(log), impl.Store{Log: log, Synced: int64(len(log)) + 1}, someEngine())
	}
	checkNotKept(t, "a Log of more than MaxBytes", synced(filledLog(impl.MaxBytes+1)), impl.DeskEngine())
	checkNotKept(t, "a Log of far more", synced(filledLog(3*impl.MaxBytes)), impl.DeskEngine())
}

// TestStoreTextsTooLong: ahead of all else.
func TestStoreTextsTooLong(t *testing.T) {
	refused := impl.StoreOut{Code: impl.ErrSize}
	stores := []impl.Store{{}, synced(logOf(eachCall()...)), {Synced: -1}, synced("x"), synced(filledLog(impl.MaxBytes)), synced(filledLog(impl.MaxBytes + 1))}
	for _, e := range append(wrongEngines(), someEngine(), impl.DeskEngine()) {
		for _, s := range stores {
			for _, size := range []int{impl.MaxBytes + 1, 3 * impl.MaxBytes} {
				is(t, "a batch", impl.StoreBatch(s, e, longText(size)), refused)
				is(t, "a source", impl.StoreTick(s, e, longText(size), 5), refused)
				is(t, "a source, and a mark that is none", impl.StoreTick(s, e, longText(size), -1), refused)
			}
		}
	}
	is(t, "a batch of MaxBytes", impl.StoreBatch(impl.Store{}, someEngine(), longText(impl.MaxBytes)), impl.StoreOut{Code: impl.ErrSyntax})
	is(t, "a source of MaxBytes", impl.StoreTick(impl.Store{}, someEngine(), longText(impl.MaxBytes), -1), impl.StoreOut{Code: impl.ErrNone})
}

// TestStoreCallCodes: each code of a call, on the engine that the log leads to; a full log does not matter then.
func TestStoreCallCodes(t *testing.T) {
	e := impl.DeskEngine()
	full := filledLog(impl.MaxBytes - 13)
	for _, log := range []string{"", logOf(tickOf("east", 500)), full + logOf(tickOf("east", 500)), logOf(tickOf("east", 500)) + full} {
		through := impl.Replay(e, log)
		is(t, "all of it", through.At, int64(len(log)))
		s, now := synced(log), through.Engine
		ask := func(what string, code int64, call logged) {
			t.Helper()
			what = fmt.Sprint(what, " behind ", len(log))
			is(t, what, checkKept(t, what, s, e, now, call), impl.StoreOut{Code: code})
		}
		for _, text := range []string{"", "x", "\x01", "\x00\x00", "\x02", longText(impl.MaxBytes)} {
			ask("no batch", impl.ErrSyntax, batchText(text))
		}
		for _, source := range append(wrongNames(), "eas", "north", longText(impl.MaxBytes)) {
			if len(source) <= impl.MaxBytes {
				ask("no source", impl.ErrNone, tickOf(source, 500))
				ask("no source, no mark", impl.ErrNone, tickOf(source, -1))
			}
		}
		for _, mark := range append(farNumbers(), -1, impl.MaxMinute+1) {
			ask("no mark", impl.ErrRange, tickOf("east", mark))
			ask("no mark", impl.ErrRange, tickOf("west", mark))
		}
		if log != "" {
			ask("back", impl.ErrRange, tickOf("east", 499))
		}
	}
	s := synced(logOf(tickOf("east", 500)))
	checkKept(t, "to where it is", s, e, impl.Replay(e, s.Log).Engine, tickOf("east", 500))
	is(t, "to where it is", impl.StoreTick(s, e, "east", 500).Code, int64(impl.OK))
	is(t, "another source, from where it is", impl.StoreTick(s, e, "west", 0).Code, int64(impl.OK))
}

// TestStoreFull lays a record behind a log so that both together have nearly MaxBytes bytes, just that, and more.
func TestStoreFull(t *testing.T) {
	e := impl.DeskEngine()
	great := slices.Repeat([]impl.Event{otherUse()}, impl.MaxBatch)
	use := impl.Event{Id: "a", Account: "bob", Meter: "cpu", Amount: 5}
	calls := []logged{closing(), tickOf("east", 5), tickOf("west", impl.MaxMinute), batchOf(), batchOf(use), batchOf(great...)}
	for _, call := range calls {
		for _, size := range []int{impl.MaxBytes - 2, impl.MaxBytes - 1, impl.MaxBytes, impl.MaxBytes + 1, impl.MaxBytes + 2} {
			s := synced(filledLog(size - len(logOf(call))))
			what := fmt.Sprintf("a %s of %d bytes up to %d", call.name, len(logOf(call)), size)
			if size > 8000 {
				is(t, what, bothGiven(t, what, s, e, call.keep), impl.StoreOut{Code: impl.ErrFull})
				continue
			}
			got := checkKept(t, what, s, e, e, call)
			is(t, what+": its size", []int64{int64(len(got.Store.Log)), got.Store.Synced}, []int64{int64(size), int64(size)})
			is(t, what+": right", impl.StoreRight(got.Store, e), true)
			is(t, what+": found again", impl.StoreRecover(got.Store, e), got.Store)
		}
		is(t, "a "+call.name+" behind MaxBytes", call.keep(synced(filledLog(impl.MaxBytes)), e), impl.StoreOut{Code: impl.ErrFull})
	}
}

// TestStoreFullOfDue: where there is no room for the record nothing is told of what would be issued.
func TestStoreFullOfDue(t *testing.T) {
	over := logOf(tickOf("east", wantStart(602)), tickOf("west", wantStart(602)))
	for _, size := range []int{impl.MaxBytes - 7, impl.MaxBytes - 6, impl.MaxBytes - 5, impl.MaxBytes} {
		s := synced(filledLog(size-len(over)) + over)
		got := bothGiven(t, "closed", s, someEngine(), impl.StoreClose)
		if size > impl.MaxBytes-6 {
			is(t, fmt.Sprint("closed behind ", size), got, impl.StoreOut{Code: impl.ErrFull})
		} else {
			is(t, fmt.Sprint("closed behind ", size), got, impl.StoreOut{Store: synced(s.Log + logOf(closing())), Docs: ledgerAs("ann 601 0 cpu=15")})
		}
	}
}

// TestStoreSyncsAll: what was not synced yet is, with the next record.
func TestStoreSyncsAll(t *testing.T) {
	log := logOf(eachCall()...)
	now := pathOf(t, someEngine(), eachCall()...).end()
	for place := range int64(len(log)) + 1 {
		for _, call := range someCalls() {
			checkKept(t, fmt.Sprint(place, " synced"), impl.Store{Log: log, Synced: place}, someEngine(), now, call)
		}
	}
}

// wantCrash is what a crash leaves.
func wantCrash(s impl.Store, keep int64) impl.Store {
	n := int64(len(s.Log))
	if !inside(s.Synced, 0, n) {
		return s
	}
	end := s.Synced
	for end < n && keep > 0 {
		end++
		keep--
	}
	return impl.Store{Log: s.Log[:end], Synced: end}
}

// checkCrash asks StoreCrash of a store of any bytes.
func checkCrash(t *testing.T, s impl.Store, keep int64) impl.Store {
	t.Helper()
	what := fmt.Sprint("a crash of ", len(s.Log), " bytes, ", s.Synced, " synced, ", keep, " kept")
	got := impl.StoreCrash(s, keep)
	is(t, what, got, wantCrash(s, keep))
	isNew(t, what, got, s)
	if inside(s.Synced, 0, int64(len(s.Log))) {
		is(t, what+", and once more", impl.StoreCrash(got, 5), got)
	}
	return got
}

// TestStoreCrash asks for no record, and for no limit: any bytes are left as they were.
func TestStoreCrash(t *testing.T) {
	draws := sameDraws()
	for _, log := range []string{"", "x", "some bytes", logOf(someCalls()...), anyText(draws, 100), anyText(draws, impl.MaxBytes), anyText(draws, impl.MaxBytes+1), anyText(draws, 3*impl.MaxBytes)} {
		n := int64(len(log))
		for _, place := range append(farNumbers(), -2, -1, 0, 1, n/3, n-1, n, n+1, n+2) {
			left := n - place
			for _, keep := range append(farNumbers(), -1, 0, 1, 2, left-1, left, left+1, n, n+1) {
				checkCrash(t, impl.Store{Log: log, Synced: place}, keep)
			}
		}
	}
	s := impl.Store{Log: "0123456789", Synced: 4}
	is(t, "none is kept", impl.StoreCrash(s, -1), impl.Store{Log: "0123", Synced: 4})
	is(t, "three are kept", impl.StoreCrash(s, 3), impl.Store{Log: "0123456", Synced: 7})
	is(t, "all are kept", impl.StoreCrash(s, 7), impl.Store{Log: "0123456789", Synced: 10})
	s.Synced = 11
	is(t, "as it is", impl.StoreCrash(s, 3), s)
}

func TestStoreRecoverAsItIs(t *testing.T) {
	good := logOf(eachCall()...)
	for _, place := range append(farNumbers(), 0, 5, int64(len(good)), int64(len(good))+1, impl.MaxBytes+1) {
		for _, log := range []string{longText(impl.MaxBytes + 1), filledLog(impl.MaxBytes + 1), good + longText(impl.MaxBytes)} {
			s := impl.Store{Log: log, Synced: place}
			for _, e := range append(wrongEngines(), someEngine()) {
				is(t, fmt.Sprint("too long, synced ", place), bothGiven(t, "too long", s, e, impl.StoreRecover), s)
			}
		}
		for _, log := range []string{"", "x", good, good + "x", good[:len(good)-1], longText(impl.MaxBytes)} {
			s := impl.Store{Log: log, Synced: place}
			for _, e := range wrongEngines() {
				is(t, fmt.Sprint("an engine that is not right, synced ", place), bothGiven(t, "not right", s, e, impl.StoreRecover), s)
			}
		}
	}
}

// TestStoreRecover cuts a log at each byte, and lays a wrong record behind each of its records: what is found again is found again once more.
func TestStoreRecover(t *testing.T) {
	calls := someCalls()
	log := logOf(calls...)
	all := pathOf(t, someEngine(), calls...)
	check := func(what string, text string, at int64) {
		t.Helper()
		for _, place := range append(farNumbers(), 0, at, int64(len(text)), int64(len(text))+1) {
			found := bothGiven(t, what, impl.Store{Log: text, Synced: place}, someEngine(), impl.StoreRecover)
			is(t, fmt.Sprint(what, ", synced ", place), found, synced(log[:at]))
			is(t, fmt.Sprint(what, ", synced ", place, ": once more"), impl.StoreRecover(found, someEngine()), found)
		}
	}
	for end := range len(log) + 1 {
		check(fmt.Sprint("the first ", end), log[:end], all.places[all.within(int64(end))])
	}
	for _, at := range all.places {
		for _, wrong := range []string{"x", "\x00", sealedRecord(""), sealedRecord("CC"), logOf(tickOf("none", impl.MaxMinute)), logOf(tickOf("west", 0))} {
			check(fmt.Sprintf("%q at %d", wrong, at), log[:at]+wrong+log[at:], at)
		}
		if at < int64(len(log)) {
			check(fmt.Sprint("a byte turned behind ", at), turned(log, int(at)+3, 1), at)
		}
	}
	check("MaxBytes bytes", log+longText(impl.MaxBytes-len(log)), int64(len(log)))
}

// anyCall draws a call on the desk's engine; some events come again.
func anyCall(draws *rand.Rand, known []impl.Event) (logged, []impl.Event) {
	switch draws.Intn(7) {
	case 0, 1, 2:
		var events []impl.Event
		for range draws.Intn(5) {
			events = append(events, againOrAny(draws, known))
		}
		return batchOf(events...), events
	case 3, 4:
		return tickOf([]string{"east", "west"}[draws.Intn(2)], anyMark(draws)), nil
	case 5:
		return []logged{tickOf("none", anyMark(draws)), batchText("x"), tickOf("east", anyNumber(draws))}[draws.Intn(3)], nil
	default:
		return closing(), nil
	}
}

// anyStore builds a store by calls, and asks each of them (promise 22): beside it goes an engine that is asked the same.
func anyStore(t *testing.T, what string, draws *rand.Rand, steps int, codes map[string]int) (impl.Store, []logged) {
	t.Helper()
	e := impl.DeskEngine()
	s, now := impl.Store{}, impl.DeskEngine()
	var known []impl.Event
	var calls []logged
	for k := range steps {
		call, events := anyCall(draws, known)
		known = append(known, events...)
		step := fmt.Sprint(what, ", step ", k, " a ", call.name)
		got := checkKept(t, step, s, e, now, call)
		codes[fmt.Sprint(call.name, " ", got.Code)]++
		if len(got.Docs) > 0 {
			codes["docs"]++
		}
		if got.Code != impl.OK {
			continue
		}
		s, now, calls = got.Store, plain(call.on(now).Engine), append(calls, call)
		is(t, step+": its log", s, synced(logOf(calls...)))
		is(t, step+": right", impl.StoreRight(s, e), true)
		is(t, step+": its engine", plain(impl.Replay(e, s.Log)), impl.ReplayOut{Engine: now, At: s.Synced})
		is(t, step+": found again", impl.StoreRecover(s, e), s)
		is(t, step+": found again behind a crash", impl.StoreRecover(impl.StoreCrash(s, draws.Int63n(9)-4), e), s)
	}
	return s, calls
}

// TestStoresStepByStep is promise 22.
func TestStoresStepByStep(t *testing.T) {
	draws := sameDraws()
	codes := map[string]int{}
	for i := range 25 {
		anyStore(t, fmt.Sprint("store ", i), draws, 40, codes)
	}
	for _, name := range []string{"batch 0", "batch 3", "tick 0", "tick 6", "tick 8", "close 0", "docs"} {
		is(t, "some of "+name, codes[name] > 0, true)
	}
}

// isBegun asks that the one documents are the first of the other ones.
func isBegun(t *testing.T, what string, ahead []impl.Doc, all []impl.Doc) {
	t.Helper()
	is(t, what+": no fewer", len(ahead) <= len(all), true)
	is(t, what+": none is another one", docsOrNone(all[:min(len(ahead), len(all))]), docsOrNone(ahead))
}

// TestCrashAtEveryPlace is promise 23: so many bytes were synced, and so many more were kept.
func TestCrashAtEveryPlace(t *testing.T) {
	draws := sameDraws()
	docs := 0
	for i := range 8 {
		what := fmt.Sprint("store ", i)
		s, calls := anyStore(t, what, draws, 24, map[string]int{})
		e := impl.DeskEngine()
		all := pathOf(t, e, calls...)
		docs += len(all.end().Docs)
		for end := range s.Synced + 1 {
			count := all.within(end)
			found := impl.StoreRecover(impl.StoreCrash(impl.Store{Log: s.Log, Synced: end}, 0), e)
			is(t, fmt.Sprint(what, ", cut at ", end), found, synced(s.Log[:all.places[count]]))
			is(t, fmt.Sprint(what, ", cut at ", end, ": its engine"), plain(impl.Replay(e, found.Log)), impl.ReplayOut{Engine: all.engines[count], At: found.Synced})
			for _, keep := range []int64{-1, 1, draws.Int63n(s.Synced + 1), s.Synced - end, s.Synced} {
				checkCrash(t, impl.Store{Log: s.Log, Synced: end}, keep)
			}
		}
		for place := range s.Synced + 1 {
			crashed := checkCrash(t, impl.Store{Log: s.Log, Synced: place}, draws.Int63n(s.Synced+1)-5)
			found := impl.StoreRecover(crashed, e)
			is(t, fmt.Sprint(what, ", ", place, " synced: no less than its whole records"), found.Synced >= all.places[all.within(place)], true)
			isBegun(t, fmt.Sprint(what, ", ", place, " synced"), all.engines[all.within(place)].Docs, impl.Replay(e, found.Log).Engine.Docs)
		}
	}
	is(t, "some documents", docs > 10, true)
}

// TestCrashAndGoOn: with the calls that a crash lost made again, all is as it would have been without one.
func TestCrashAndGoOn(t *testing.T) {
	draws := sameDraws()
	for i := range 6 {
		whole, calls := anyStore(t, fmt.Sprint("store ", i), draws, 16, map[string]int{})
		e := impl.DeskEngine()
		all := pathOf(t, e, calls...)
		for count, place := range all.places {
			end := int64(len(whole.Log))
			if count+1 < len(all.places) {
				end = place + draws.Int63n(all.places[count+1]-place)
			}
			s := impl.StoreRecover(impl.StoreCrash(impl.Store{Log: whole.Log, Synced: place}, end-place), e)
			for _, call := range calls[count:] {
				got := call.keep(s, e)
				is(t, "made again", got.Code, int64(impl.OK))
				s = got.Store
			}
			is(t, fmt.Sprint("store ", i, ", lost behind ", count), s, whole)
		}
	}
}

// TestCrashTakesBatchesAgain: of a batch that was kept nothing is taken twice, and of one that was lost all is taken.
func TestCrashTakesBatchesAgain(t *testing.T) {
	e := impl.DeskEngine()
	use := func(id string) impl.Event {
		return impl.Event{Id: id, Account: "bob", Meter: "cpu", Minute: wantStart(600), Amount: 10}
	}
	one, two := batchOf(use("a"), use("b")), batchOf(use("c"), use("d"), use("e"))
	log := logOf(one, two)
	for end := range int64(len(log)) + 1 {
		s := impl.StoreRecover(impl.StoreCrash(impl.Store{Log: log}, end), e)
		first := one.keep(s, e)
		second := two.keep(first.Store, e)
		want := []impl.Counts{{Took: 2}, {Took: 3}}
		if end >= int64(len(logOf(one))) {
			want[0] = impl.Counts{Twice: 2}
		}
		if end == int64(len(log)) {
			want[1] = impl.Counts{Twice: 3}
		}
		is(t, fmt.Sprint(end, " kept"), []impl.Counts{first.Counts, second.Counts}, want)
		is(t, fmt.Sprint(end, " kept: the sum"), impl.Replay(e, second.Store.Log).Engine.Windows[0].Sum, int64(50))
	}
}

// TestStoreAnswersAreNew spoils what was handed in, and the lists of an answer: nothing else may be turned by it.
func TestStoreAnswersAreNew(t *testing.T) {
	calls := []logged{batchOf(impl.Event{Id: "new", Account: "zoe", Meter: "cpu", Minute: wantStart(602), Amount: 5, Tag: "tag"}), tickOf("s1", impl.MaxMinute), closing()}
	for count := range len(calls) + 1 {
		given, log := roomy(fullEngine()), logOf(calls[:count]...)
		got := impl.Replay(given, log)
		isNew(t, "a replay", got, given, log)
		is(t, "the room behind", roomEmpty(reflect.ValueOf(given)), true)
		want := plain(got)
		spoilEngine(given)
		is(t, fmt.Sprint("what was handed in to a replay of ", count, " is turned"), plain(got), want)
		spoilEngine(got.Engine)
		is(t, fmt.Sprint("asked again for a replay of ", count), plain(impl.Replay(fullEngine(), log)), want)
	}
	for _, call := range calls {
		given, s := roomy(fullEngine()), impl.Store{Log: logOf(batchOf()), Synced: 3}
		got := call.keep(s, given)
		is(t, call.name+" is taken", got.Code, int64(impl.OK))
		isNew(t, call.name, got, given, s, call.sealed)
		is(t, call.name+": the room behind", roomEmpty(reflect.ValueOf(given)), true)
		want := plain(got)
		spoilEngine(given)
		is(t, call.name+": what was handed in is turned", plain(got), want)
		spoilDocs(got.Docs)
		is(t, call.name+": asked again", plain(call.keep(s, fullEngine())), want)
	}
	source, batch := strings.Repeat("s", 20), batchOf(someUse("new")).sealed[1:]
	e := impl.EngineNew(flatCatalog("cpu"), []string{source}).Engine
	isNew(t, "StoreTick", impl.StoreTick(impl.Store{}, e, source, 5), e, source)
	isNew(t, "StoreBatch", impl.StoreBatch(impl.Store{}, e, batch), e, batch)
	log := logOf(tickOf(source, 5), batchText(batch))
	isNew(t, "Replay", impl.Replay(e, log), e, log)
}
