package tests

import (
	"fmt"
	"math/rand"
	"reflect"
	"slices"
	"strings"
	"testing"

	"loop.example/g00562/impl"
)

// sourcesOf are Sources of these names at the mark 0.
func sourcesOf(names ...string) []impl.Source {
	var out []impl.Source
	for _, name := range names {
		out = append(out, impl.Source{Name: name})
	}
	return out
}

// markedSources are right, while there are no more than may be, at these marks.
func markedSources(marks ...int64) []impl.Source {
	var out []impl.Source
	for i, mark := range marks {
		out = append(out, impl.Source{Name: fmt.Sprintf("s%d", i), Mark: mark})
	}
	return out
}

// windowIn is a right Window of that month whose Sum, Most and peak are that.
func windowIn(account string, month int64, meter string, sum int64) impl.Window {
	return inMonth(usedBy(account, meter, sum), month)
}

// emptyEngine has a catalog of cpu, disk and net, 2 each, one source at that mark, and nothing else.
func emptyEngine(mark int64) impl.Engine {
	return impl.Engine{Catalog: flatCatalog("cpu", "disk", "net"), Sources: markedSources(mark)}
}

// someEngine is right: the month 600 is just over, and 599 is done with.
func someEngine() impl.Engine {
	e := emptyEngine(0)
	e.Catalog.Credits = []impl.Credit{{Account: "ann", Micro: 3}}
	e.Sources = []impl.Source{{Name: "east", Mark: wantStart(601) + 100}, {Name: "west", Mark: wantStart(601)}}
	e.Freed = 600
	for i := range 5 {
		e.Seen = append(e.Seen, impl.Entry{Id: fmt.Sprint("k", i), Minute: wantStart(600) + int64(i*37%5), Sum: int64(i)})
	}
	e.Windows = []impl.Window{windowIn("ann", 600, "cpu", 5), windowIn("ann", 600, "disk", 7), windowIn("ann", 601, "cpu", 9), windowIn("bob", 600, "net", 11)}
	e.Windows[0].Tags = []string{"s", "t"}
	e.Docs = ledgerAs("ann 600 0 cpu=4", "cyd 599 0 disk=8", "ann 600 1 disk=-2")
	return e
}

// someUse is a right Event that someEngine takes.
func someUse(id string) impl.Event {
	return impl.Event{Id: id, Account: "bob", Meter: "cpu", Minute: wantStart(601) + 61, Amount: 5, Tag: "tag"}
}

// windowKey rises as an engine's windows do: a blank is less than any byte of a name.
func windowKey(w impl.Window) string {
	return fmt.Sprintf("%s %04d %s", w.Account, w.Month, w.Meter)
}

// wantMark is the least of the Marks of a right engine.
func wantMark(e impl.Engine) int64 {
	mark := e.Sources[0].Mark
	for _, source := range e.Sources {
		if source.Mark < mark {
			mark = source.Mark
		}
	}
	return mark
}

// wantEnd is from which mark on a month is over.
func wantEnd(month int64) int64 {
	if month == lastMonth {
		return 121000000
	}
	return wantStart(month + 1)
}

// windowAt is where the window of that account, month and meter stands, or -1.
func windowAt(windows []impl.Window, of impl.Window) int {
	return slices.IndexFunc(windows, func(w impl.Window) bool { return windowKey(w) == windowKey(of) })
}

// seenCode is what SeenTake tells of a right list and a right Event.
func seenCode(l []impl.Entry, x impl.Event) int64 {
	for _, entry := range l {
		if entry == wantEntry(x) {
			return impl.ErrThere
		}
		if entry.Id == x.Id {
			return impl.ErrClash
		}
	}
	if len(l) >= 40 {
		return impl.ErrFull
	}
	return impl.OK
}

// wantUseCode is the code of Take, of a right engine and a right Event.
func wantUseCode(e impl.Engine, x impl.Event) int64 {
	own := wantWindow(x)
	if x.Minute < wantMark(e)-2880 || own.Month < e.Freed {
		return impl.ErrLate
	}
	if !slices.ContainsFunc(e.Catalog.Meters, func(m impl.Meter) bool { return m.Name == x.Meter }) {
		return impl.ErrNone
	}
	if code := seenCode(e.Seen, x); code != impl.OK {
		return code
	}
	if at := windowAt(e.Windows, own); at >= 0 {
		return wantJoin(e.Windows[at], own).Code
	}
	if len(e.Windows) >= 16 {
		return impl.ErrFull
	}
	return impl.OK
}

// wantUse is what Take tells of a right engine and a right Event.
func wantUse(e impl.Engine, x impl.Event) impl.EngineOut {
	if code := wantUseCode(e, x); code != impl.OK {
		return impl.EngineOut{Code: code}
	}
	after, own := plain(e), wantWindow(x)
	if at := windowAt(after.Windows, own); at >= 0 {
		after.Windows[at] = wantJoin(after.Windows[at], own).Window
	} else {
		after.Windows = append(after.Windows, own)
	}
	after.Seen = append(after.Seen, wantEntry(x))
	slices.SortFunc(after.Windows, func(a impl.Window, b impl.Window) int { return strings.Compare(windowKey(a), windowKey(b)) })
	slices.SortFunc(after.Seen, func(a impl.Entry, b impl.Entry) int { return strings.Compare(a.Id, b.Id) })
	return impl.EngineOut{Engine: after}
}

// wantIngest is what Ingest tells of a right engine and the batch of these.
func wantIngest(e impl.Engine, events []impl.Event) impl.EngineOut {
	out := impl.EngineOut{Engine: plain(e)}
	n := &out.Counts
	places := map[int64]*int64{impl.OK: &n.Took, impl.ErrThere: &n.Twice, impl.ErrClash: &n.Clash, impl.ErrLate: &n.Late}
	for _, x := range events {
		got := wantUse(out.Engine, x)
		place, there := places[got.Code]
		if !there {
			place = &n.Other
		}
		*place++
		if got.Code == impl.OK {
			out.Engine = got.Engine
		}
	}
	return out
}

// wantTick is what Tick tells of a right engine.
func wantTick(e impl.Engine, source string, mark int64) impl.EngineOut {
	after := plain(e)
	for i, s := range after.Sources {
		if s.Name != source {
			continue
		}
		if !inside(mark, s.Mark, 121000000) {
			return impl.EngineOut{Code: impl.ErrRange}
		}
		after.Sources[i].Mark = mark
		return impl.EngineOut{Engine: after}
	}
	return impl.EngineOut{Code: impl.ErrNone}
}

// wantFreed looks for the first month that is not done with by the mark.
func wantFreed(e impl.Engine) int64 {
	month := int64(0)
	for wantEnd(month)+2880 <= wantMark(e) {
		month++
	}
	return max(month, e.Freed)
}

// duePeriods are a window of each account and month that is over, in order.
func duePeriods(e impl.Engine) []impl.Window {
	var out []impl.Window
	for i, w := range e.Windows {
		again := i > 0 && e.Windows[i-1].Account == w.Account && e.Windows[i-1].Month == w.Month
		if !again && wantEnd(w.Month) <= wantMark(e) {
			out = append(out, w)
		}
	}
	return out
}

// wantBillNow is the bill of an account and month.
func wantBillNow(e impl.Engine, account string, month int64) impl.BillOut {
	other := func(w impl.Window) bool { return w.Account != account || w.Month != month }
	return wantBill(e.Catalog, account, slices.DeleteFunc(slices.Clone(e.Windows), other))
}

// tooWide tells whether a Doc has more lines than a right one has.
func tooWide(d impl.Doc) bool {
	return len(d.Lines) > impl.MaxMeters
}

// wantClose is what CloseDue tells of a right engine.
func wantClose(e impl.Engine) impl.EngineOut {
	out := impl.EngineOut{Engine: plain(e)}
	after := &out.Engine
	for _, w := range duePeriods(e) {
		bill := wantBillNow(e, w.Account, w.Month)
		issued := wantIssue(after.Docs, w.Account, w.Month, bill.Lines)
		if bill.Code != impl.OK || issued.Code != impl.OK || slices.ContainsFunc(after.Docs, tooWide) {
			continue
		}
		after.Docs, out.Docs = issued.Docs, append(out.Docs, issued.Doc)
	}
	after.Freed = wantFreed(e)
	after.Windows = slices.DeleteFunc(after.Windows, func(w impl.Window) bool { return w.Month < after.Freed })
	after.Seen = wantDrop(after.Seen, wantStart(after.Freed))
	return plain(out)
}

// asked is what a call on an engine tells: the engine must be left as it was, and the answer must be new memory.
func asked[T any](t *testing.T, what string, e impl.Engine, call func(impl.Engine) T) T {
	t.Helper()
	kept := plain(e)
	got := call(e)
	is(t, what+": the engine is left as it was", plain(e), kept)
	isNew(t, what, got, e)
	return plain(got)
}

// isEngine holds an answer of a right engine against what is asked for: its engine must be right, too, and the mark may not go back.
func isEngine(t *testing.T, what string, e impl.Engine, got impl.EngineOut, want impl.EngineOut) impl.EngineOut {
	t.Helper()
	is(t, what, got, plain(want))
	if got.Code == impl.OK {
		is(t, what+": what comes out is right", impl.EngineRight(got.Engine), !slices.ContainsFunc(got.Engine.Docs, tooWide))
		is(t, what+": the mark does not go back", wantMark(got.Engine) >= wantMark(e), true)
		is(t, what+": nor does Freed", got.Engine.Freed >= e.Freed, true)
	}
	return got
}

// checkUse asks Take of a right engine and a right Event; promise 18 of what was taken.
func checkUse(t *testing.T, what string, e impl.Engine, x impl.Event) impl.EngineOut {
	t.Helper()
	got := asked(t, what, e, func(e impl.Engine) impl.EngineOut { return impl.Take(e, x) })
	isEngine(t, what, e, got, wantUse(e, x))
	if got.Code == impl.OK {
		is(t, what+": again", impl.Take(got.Engine, x), impl.EngineOut{Code: impl.ErrThere})
	}
	return got
}

// checkUseCode asks Take of what it refuses: nothing may stand beside the code.
func checkUseCode(t *testing.T, what string, e impl.Engine, x impl.Event, code int64) {
	t.Helper()
	is(t, what, asked(t, what, e, func(e impl.Engine) impl.EngineOut { return impl.Take(e, x) }), impl.EngineOut{Code: code})
}

// checkIngest asks Ingest of a right engine and the batch of right events; promise 18 of the counts.
func checkIngest(t *testing.T, what string, e impl.Engine, events []impl.Event) impl.EngineOut {
	t.Helper()
	batch := impl.BatchBytes(events)
	got := asked(t, what, e, func(e impl.Engine) impl.EngineOut { return impl.Ingest(e, batch) })
	isEngine(t, what, e, got, wantIngest(e, events))
	n := got.Counts
	is(t, what+": each event is counted once", n.Took+n.Twice+n.Clash+n.Late+n.Other, int64(len(events)))
	is(t, what+": those that were taken", int64(len(got.Engine.Seen)-len(e.Seen)), n.Took)
	return got
}

// checkTick asks Tick of a right engine.
func checkTick(t *testing.T, what string, e impl.Engine, source string, mark int64) impl.EngineOut {
	t.Helper()
	got := asked(t, what, e, func(e impl.Engine) impl.EngineOut { return impl.Tick(e, source, mark) })
	return isEngine(t, what, e, got, wantTick(e, source, mark))
}

// checkClose asks CloseDue of a right engine, and promise 20 of what it tells.
func checkClose(t *testing.T, what string, e impl.Engine) impl.EngineOut {
	t.Helper()
	got := asked(t, what, e, impl.CloseDue)
	isEngine(t, what, e, got, wantClose(e))
	is(t, what+": none ahead is another one", plain(got.Engine.Docs[:len(e.Docs)]), plain(e.Docs))
	is(t, what+": those that were issued stand at the end", plain(got.Engine.Docs[len(e.Docs):]), got.Docs)
	due := duePeriods(e)
	if len(e.Docs)+len(due) <= impl.MaxDocs && impl.EngineRight(got.Engine) {
		for _, w := range due {
			checkBilled(t, what, e, got.Engine, w)
		}
		is(t, what+": closed again", asked(t, what, got.Engine, impl.CloseDue), impl.EngineOut{Engine: got.Engine})
	}
	return got
}

// checkBilled asks that the net of an account and month that is over is its bill, if that can be told.
func checkBilled(t *testing.T, what string, e impl.Engine, after impl.Engine, w impl.Window) {
	t.Helper()
	bill := impl.BillNow(e, w.Account, w.Month)
	code := impl.Issue(e.Docs, w.Account, w.Month, bill.Lines).Code
	net := impl.NetNow(after, w.Account, w.Month)
	if bill.Code == impl.OK && (code == impl.OK || code == impl.ErrThere) {
		is(t, what+": the net is the bill", linesOrNone(net), linesOrNone(bill.Lines))
	} else {
		is(t, what+": the net is what it was", linesOrNone(net), wantNet(e.Docs, w.Account, w.Month))
	}
}

// checkDrain asks Drain of a right engine.
func checkDrain(t *testing.T, what string, e impl.Engine) impl.EngineOut {
	t.Helper()
	far := plain(e)
	for i := range far.Sources {
		far.Sources[i].Mark = 121000000
	}
	got := asked(t, what, e, impl.Drain)
	isEngine(t, what, e, got, wantClose(far))
	is(t, what+": as closed at the last mark", got, checkClose(t, what+" at the last mark", far))
	return got
}

// checkNet asks NetNow and BillNow of a right engine, an account that is a name, and any month.
func checkNet(t *testing.T, what string, e impl.Engine, account string, month int64) {
	t.Helper()
	what = fmt.Sprint(what, ": ", account, " ", month)
	net := asked(t, what+" net", e, func(e impl.Engine) []impl.Line { return impl.NetNow(e, account, month) })
	is(t, what+" net", linesOrNone(net), wantNet(e.Docs, account, month))
	bill := asked(t, what+" bill", e, func(e impl.Engine) impl.BillOut { return impl.BillNow(e, account, month) })
	is(t, what+" bill", bill, plain(wantBillNow(e, account, month)))
}

// checkRightEngine asks all calls that take an Engine, of one that is right.
func checkRightEngine(t *testing.T, what string, e impl.Engine) {
	t.Helper()
	is(t, what+" is right", asked(t, what, e, impl.EngineRight), true)
	is(t, what+": its mark", asked(t, what, e, impl.MarkOf), wantMark(e))
	for _, x := range []impl.Event{someUse("new"), {Id: "first", Account: "a", Meter: "cpu"}, {Id: "last", Account: "z", Meter: "disk", Minute: impl.MaxMinute, Amount: 3}} {
		checkUse(t, what+": takes "+x.Id, e, x)
		checkIngest(t, what+": takes in twice "+x.Id, e, []impl.Event{x, x})
	}
	checkTick(t, what+": a tick", e, e.Sources[0].Name, impl.MaxMinute)
	checkTick(t, what+": no source", e, "none", impl.MaxMinute)
	checkClose(t, what+": closed", e)
	checkDrain(t, what+": drained", e)
	for _, w := range e.Windows {
		checkNet(t, what, e, w.Account, w.Month)
	}
	for _, d := range e.Docs {
		checkNet(t, what, e, d.Account, d.Month)
	}
	checkNet(t, what, e, "other", 600)
}

// checkWrongEngine asks all calls that take an Engine, of one that is not right.
func checkWrongEngine(t *testing.T, what string, e impl.Engine) {
	t.Helper()
	is(t, what+" is not right", asked(t, what, e, impl.EngineRight), false)
	is(t, what+" has no mark", asked(t, what, e, impl.MarkOf), int64(-1))
	refused := impl.EngineOut{Code: impl.ErrForm}
	calls := map[string]func(impl.Engine) impl.EngineOut{
		"Take":             func(e impl.Engine) impl.EngineOut { return impl.Take(e, someUse("new")) },
		"Take of no event": func(e impl.Engine) impl.EngineOut { return impl.Take(e, impl.Event{}) },
		"Ingest": func(e impl.Engine) impl.EngineOut {
			return impl.Ingest(e, impl.BatchBytes([]impl.Event{someUse("new")}))
		},
		"Ingest of no batch": func(e impl.Engine) impl.EngineOut { return impl.Ingest(e, "x") },
		"Tick":               func(e impl.Engine) impl.EngineOut { return impl.Tick(e, "east", impl.MaxMinute) },
		"Tick of no source":  func(e impl.Engine) impl.EngineOut { return impl.Tick(e, "none", -1) },
		"CloseDue":           impl.CloseDue,
		"Drain":              impl.Drain,
	}
	for name, call := range calls {
		is(t, what+": "+name, asked(t, what+": "+name, e, call), refused)
	}
	for _, account := range []string{"ann", "bob", "", "A"} {
		is(t, what+": no net", len(impl.NetNow(e, account, 600)), 0)
		is(t, what+": no bill", impl.BillNow(e, account, 600), impl.BillOut{Code: impl.ErrForm})
	}
}

func checkEngine(t *testing.T, what string, e impl.Engine, right bool) {
	t.Helper()
	if right {
		checkRightEngine(t, what, e)
	} else {
		checkWrongEngine(t, what, e)
	}
}

// checkNoEngine asks for an Engine that can't be: none may stand beside the code.
func checkNoEngine(t *testing.T, what string, c impl.Catalog, sources []string, code int64) {
	t.Helper()
	is(t, what, impl.EngineNew(c, sources), impl.EngineOut{Code: code})
}

func TestEngineWords(t *testing.T) {
	is(t, "limits", []int64{impl.Lateness, impl.MaxWindows, impl.MaxSources}, []int64{2880, 16, 3})
}

func TestEngineNew(t *testing.T) {
	for _, c := range []impl.Catalog{{}, {Meters: namedMeters("cpu")}, fullCatalog(), greatCatalog()} {
		for _, names := range [][]string{{"a"}, {"east", "west"}, {"a", "a0", "a_"}, {longText(20)}} {
			kept := slices.Clone(names)
			want := impl.Engine{Catalog: keptCatalog(c), Sources: sourcesOf(names...)}
			is(t, fmt.Sprint("an engine of ", names), impl.EngineNew(c, names), impl.EngineOut{Engine: want})
			is(t, "the names handed in", names, kept)
			is(t, "the catalog handed in", c, want.Catalog)
		}
	}
}

func TestEngineNewRefuses(t *testing.T) {
	c := fullCatalog()
	wrong := [][]string{nil, {}, {"a", "b", "c", "d"}, {"a", "a"}, {"b", "a"}, {"a", "c", "b"}, {"a", "b", "b"}, {"aa", "a"}, {"a", "B"}, {"a", ""}}
	for _, names := range wrong {
		checkNoEngine(t, fmt.Sprint("sources ", names), c, names, impl.ErrForm)
	}
	for _, name := range wrongNames() {
		checkNoEngine(t, "a source "+told(name), c, []string{name}, impl.ErrForm)
		checkNoEngine(t, "a source behind another "+told(name), c, []string{"a", name}, impl.ErrForm)
	}
	many := slices.Repeat([]string{"east"}, impl.MaxList+1)
	checkNoEngine(t, "MaxList sources", c, many[1:], impl.ErrForm)
	checkNoEngine(t, "too many sources", c, many, impl.ErrSize)
	c.Meters[5].Agg = 0
	checkNoEngine(t, "a catalog that is not right", c, []string{"east"}, impl.ErrForm)
	checkNoEngine(t, "too many sources, and a catalog that is not right", c, many, impl.ErrSize)
}

func TestEngineNewSharesNothing(t *testing.T) {
	c, names := fullCatalog(), []string{"east", "west"}
	first, second := impl.EngineNew(c, names).Engine, impl.EngineNew(c, names).Engine
	spoilCatalog(first.Catalog)
	is(t, "the catalog handed in", c, fullCatalog())
	spoilCatalog(c)
	names[0] = "north"
	is(t, "made beside it", second, impl.Engine{Catalog: fullCatalog(), Sources: sourcesOf("east", "west")})
	for place := range impl.MaxMeters {
		made := impl.EngineNew(fullCatalog(), names[1:]).Engine.Catalog
		spoilMeter(made.Meters[place])
		want := fullCatalog()
		want.Meters[place].Tiers = made.Meters[place].Tiers
		is(t, fmt.Sprint("all but the tiers of ", place), made, want)
	}
}

// TestEngineByHand writes a month out, from its first event to what comes late.
func TestEngineByHand(t *testing.T) {
	start := wantStart(600)
	e := impl.DeskEngine()
	batch := impl.BatchBytes([]impl.Event{
		{Id: "e1", Account: "bob", Meter: "cpu", Minute: start, Amount: 60},
		{Id: "e2", Account: "ann", Meter: "disk", Minute: start + 60, Amount: 100, Tag: "t"},
		{Id: "e1", Account: "bob", Meter: "cpu", Minute: start, Amount: 60},
		{Id: "e1", Account: "bob", Meter: "cpu", Minute: start, Amount: 61},
		{Id: "e3", Account: "bob", Meter: "net", Minute: start, Amount: 1},
		{Id: "e4", Account: "bob", Meter: "cpu", Minute: wantStart(601) - 1, Amount: 20},
	})
	in := impl.Ingest(e, batch)
	is(t, "counts", in.Counts, impl.Counts{Took: 3, Twice: 1, Clash: 1, Other: 1})
	is(t, "windows", []string{windowKey(in.Engine.Windows[0]), windowKey(in.Engine.Windows[1])}, []string{"ann 0600 disk", "bob 0600 cpu"})
	is(t, "the sum of bob", []int64{in.Engine.Windows[1].Sum, in.Engine.Windows[1].Events}, []int64{80, 2})
	is(t, "the bill of bob", impl.BillNow(in.Engine, "bob", 600), impl.BillOut{Lines: linesAs("cpu=3500")})
	is(t, "nothing is over", len(impl.CloseDue(in.Engine).Docs), 0)
	east := impl.Tick(in.Engine, "east", wantStart(601))
	is(t, "the mark waits for west", impl.MarkOf(east.Engine), int64(0))
	west := impl.Tick(east.Engine, "west", wantStart(601)+5)
	is(t, "the mark", impl.MarkOf(west.Engine), wantStart(601))
	closed := impl.CloseDue(west.Engine)
	is(t, "what is issued", closed.Docs, ledgerAs("ann 600 0", "bob 600 0 cpu=3500"))
	is(t, "what stays", []int{len(closed.Engine.Windows), len(closed.Engine.Seen), int(closed.Engine.Freed)}, []int{2, 3, 600})
	late := impl.Take(closed.Engine, impl.Event{Id: "e5", Account: "bob", Meter: "cpu", Minute: wantStart(601) - 2880, Amount: 10})
	is(t, "just not late", late.Code, int64(impl.OK))
	is(t, "late", impl.Take(closed.Engine, impl.Event{Id: "e5", Account: "bob", Meter: "cpu", Minute: wantStart(601) - 2881, Amount: 10}), impl.EngineOut{Code: impl.ErrLate})
	drained := impl.Drain(late.Engine)
	is(t, "what is amended", drained.Docs, ledgerAs("bob 600 1 cpu=500"))
	is(t, "the net", impl.NetNow(drained.Engine, "bob", 600), linesAs("cpu=4000"))
	is(t, "what is left", []int{len(drained.Engine.Windows), len(drained.Engine.Seen), int(drained.Engine.Freed)}, []int{0, 0, 2760})
	is(t, "all three ", len(drained.Engine.Docs), 3)
}

func TestEnginesThatAreRight(t *testing.T) {
	checkRightEngine(t, "some engine", someEngine())
	checkRightEngine(t, "an engine of nothing", impl.Engine{Sources: sourcesOf("a")})
	checkRightEngine(t, "an engine of empty lists", impl.Engine{Catalog: impl.Catalog{Meters: []impl.Meter{}, Credits: []impl.Credit{}}, Sources: sourcesOf("a"), Seen: []impl.Entry{}, Windows: []impl.Window{}, Docs: []impl.Doc{}})
	checkRightEngine(t, "the desk's", impl.DeskEngine())
	checkWrongEngine(t, "the zero engine", impl.Engine{})
}

func TestEngineCatalogs(t *testing.T) {
	for _, m := range wrongMeters() {
		e := emptyEngine(5)
		e.Catalog.Meters[1] = m
		checkWrongEngine(t, "a meter that is not right", e)
	}
	e := someEngine()
	e.Catalog.Credits = namedCredits("b", "a")
	checkWrongEngine(t, "credits that fall", e)
	e.Catalog.Credits = []impl.Credit{{Account: "ann", Micro: -1}}
	checkWrongEngine(t, "a credit below 0", e)
	e.Catalog.Credits = []impl.Credit{{Account: "ann"}}
	checkRightEngine(t, "a credit of 0", e)
	e.Catalog.Meters = slices.Repeat(e.Catalog.Meters, 3)
	checkWrongEngine(t, "meters more than once", e)
	for _, count := range []int{0, 1, impl.MaxMeters, impl.MaxMeters + 1} {
		e := emptyEngine(5)
		e.Catalog = flatCatalog(sevenNames()[:count]...)
		checkEngine(t, fmt.Sprint(count, " meters"), e, count <= 6)
	}
}

func TestEngineSeen(t *testing.T) {
	for _, count := range []int{0, 1, impl.MaxSeen - 1, impl.MaxSeen, impl.MaxSeen + 1, impl.MaxList, impl.MaxList + 1} {
		e := emptyEngine(5)
		e.Seen = someEntries(count)
		checkEngine(t, fmt.Sprint(count, " entries"), e, count <= 40)
	}
	for _, ids := range [][]string{{"a", "a"}, {"b", "a"}, {"a", "c", "b"}, {""}, {"a", "b c"}, {longText(21)}} {
		e := emptyEngine(5)
		e.Seen = idEntries(ids...)
		checkWrongEngine(t, fmt.Sprint("ids ", ids), e)
	}
	for _, n := range append(farNumbers(), impl.MaxMinute, impl.MaxMinute+1, greatestSum, greatestSum+1) {
		e := emptyEngine(5)
		e.Seen = someEntries(3)
		e.Seen[1].Minute = n
		checkEngine(t, fmt.Sprint("a Minute of ", n), e, inside(n, 0, 121000000))
		e.Seen = someEntries(3)
		e.Seen[2].Sum = n
		checkEngine(t, fmt.Sprint("a Sum of ", n), e, inside(n, 0, 4294967295))
	}
}

func TestEngineDocs(t *testing.T) {
	for _, count := range []int{0, 1, impl.MaxDocs - 1, impl.MaxDocs, impl.MaxDocs + 1, impl.MaxList, impl.MaxList + 1} {
		e := emptyEngine(5)
		e.Docs = someDocs(count)
		checkEngine(t, fmt.Sprint(count, " docs"), e, count <= 30)
	}
	wrong := [][]string{{"ann 600 1 cpu=1"}, {"ann 600 0", "ann 600 0"}, {"ann 600 0", "ann 600 2 cpu=1"}, {"ann 600 0", "ann 600 1"}, {"Ann 600 0"}, {"ann -1 0"}, {"ann 2761 0"}, {"ann 600 0 b=1 a=1"}, {"ann 600 0 a=0"}, {"ann 600 0 cpu=1000000000000000", "ann 600 1 cpu=1"}}
	for _, texts := range wrong {
		e := someEngine()
		e.Docs = ledgerAs(texts...)
		checkWrongEngine(t, fmt.Sprint("docs ", texts), e)
	}
	e := someEngine()
	e.Docs = greatDocs()
	checkRightEngine(t, "the greatest docs", e)
}

func TestEngineSources(t *testing.T) {
	for count := range impl.MaxSources + 3 {
		e := someEngine()
		e.Sources = markedSources(slices.Repeat([]int64{wantStart(601)}, count)...)
		checkEngine(t, fmt.Sprint(count, " sources"), e, inside(int64(count), 1, 3))
	}
	for _, names := range [][]string{{"a", "a"}, {"b", "a"}, {"aa", "a"}, {"a", "c", "b"}, {"a", "b", "b"}, {"a", ""}, {"a", "B"}} {
		e := someEngine()
		e.Sources = sourcesOf(names...)
		checkWrongEngine(t, fmt.Sprint("sources ", names), e)
	}
	for _, name := range wrongNames() {
		e := someEngine()
		e.Sources[0].Name = name
		checkWrongEngine(t, "ahead of another "+told(name), e)
		e.Sources = sourcesOf("a", name)
		checkWrongEngine(t, "behind another "+told(name), e)
		e.Sources = sourcesOf(name)
		checkWrongEngine(t, "alone "+told(name), e)
	}
	for _, names := range [][]string{{"a"}, {"a", "a0", "a_"}, {"a", "aa", "b"}, {longText(19), longText(20)}} {
		e := someEngine()
		e.Sources = sourcesOf(names...)
		checkRightEngine(t, fmt.Sprint("sources ", names), e)
	}
	e := someEngine()
	e.Sources = slices.Repeat(sourcesOf("a"), impl.MaxList+1)
	checkWrongEngine(t, "many sources", e)
}

// TestEngineMarks lays each mark in each place; the others are in between.
func TestEngineMarks(t *testing.T) {
	for place := range impl.MaxSources {
		for _, mark := range append(farNumbers(), 0, 1, 5000, impl.MaxMinute-1, impl.MaxMinute, impl.MaxMinute+1) {
			e := emptyEngine(0)
			e.Sources = markedSources(6000, 6000, 6000)
			e.Sources[place].Mark = mark
			right := inside(mark, 0, 121000000)
			checkEngine(t, fmt.Sprint("a mark of ", mark, " at ", place), e, right)
			want := int64(-1)
			if right {
				want = min(mark, 6000)
			}
			is(t, fmt.Sprint("the least with ", mark, " at ", place), impl.MarkOf(e), want)
		}
	}
}

// someWindows are right for emptyEngine, while they are no more than may be.
func someWindows(count int) []impl.Window {
	var out []impl.Window
	for i := range count {
		out = append(out, windowIn(fmt.Sprintf("a%03d", i/4), int64(600+i/2%2), []string{"cpu", "net"}[i%2], int64(i)))
	}
	return out
}

func TestEngineWindowCounts(t *testing.T) {
	for _, count := range []int{0, 1, 2, impl.MaxWindows - 1, impl.MaxWindows, impl.MaxWindows + 1, 20, 21, impl.MaxList, impl.MaxList + 1} {
		e := emptyEngine(wantStart(601))
		e.Windows = someWindows(count)
		checkEngine(t, fmt.Sprint(count, " windows"), e, count <= 16)
	}
}

func TestEngineWindowsAreRight(t *testing.T) {
	for place := range 3 {
		for _, w := range wrongWindows("bob") {
			e := emptyEngine(5)
			e.Windows = []impl.Window{usedBy("ann", "cpu", 1), usedBy("bob", "cpu", 2), usedBy("cyd", "cpu", 3)}
			w.Account = e.Windows[place].Account
			e.Windows[place] = w
			checkWrongEngine(t, fmt.Sprint("at ", place, " ", told(w)), e)
		}
		for _, meter := range []string{"a", "cp", "cpu_", "cpuu", "dis", "disk0", "z"} {
			e := emptyEngine(5)
			e.Windows = []impl.Window{usedBy("ann", "cpu", 1), usedBy("bob", "cpu", 2), usedBy("cyd", "cpu", 3)}
			e.Windows[place].Meter = meter
			checkWrongEngine(t, fmt.Sprint("at ", place, " no meter ", meter), e)
		}
	}
	e := emptyEngine(5)
	e.Catalog = impl.Catalog{}
	e.Windows = []impl.Window{usedBy("ann", "cpu", 1)}
	checkWrongEngine(t, "a catalog of nothing", e)
}

// TestEngineWindowsRise: Account first, then Month, then Meter.
func TestEngineWindowsRise(t *testing.T) {
	at := func(account string, month int64, meter string) impl.Window { return windowIn(account, month, meter, 5) }
	right := [][]impl.Window{
		{at("ann", 600, "cpu"), at("bob", 600, "cpu")}, {at("ann", 600, "cpu"), at("ann", 601, "cpu")}, {at("ann", 600, "cpu"), at("ann", 600, "disk")},
		{at("ann", 601, "cpu"), at("bob", 600, "cpu")}, {at("ann", 600, "disk"), at("bob", 600, "cpu")}, {at("ann", 600, "disk"), at("ann", 601, "cpu")},
		{at("ann", 602, "net"), at("bob", 601, "disk")}, {at("ann", 600, "net"), at("ann", 601, "disk"), at("ann", 602, "cpu")}, {at("a", 601, "net"), at("aa", 600, "cpu"), at("b", 5, "cpu")},
		{at("ann", 9, "cpu"), at("ann", 10, "cpu"), at("ann", 100, "cpu"), at("ann", 1000, "cpu")},
	}
	for _, windows := range right {
		e := emptyEngine(5)
		e.Windows = windows
		checkRightEngine(t, "rising "+told(windows), e)
		e.Windows = slices.Clone(windows)
		slices.Reverse(e.Windows)
		checkWrongEngine(t, "falling "+told(windows), e)
		e.Windows = append(slices.Clone(windows), windows[len(windows)-1])
		checkWrongEngine(t, "the last one twice "+told(windows), e)
		e.Windows = append(windows[:1:1], windows...)
		checkWrongEngine(t, "the first one twice "+told(windows), e)
	}
	for place := 1; place < impl.MaxWindows; place++ {
		e := emptyEngine(5)
		e.Windows = someWindows(impl.MaxWindows)
		e.Windows[place], e.Windows[place-1] = e.Windows[place-1], e.Windows[place]
		checkWrongEngine(t, fmt.Sprint("falling at ", place), e)
	}
}

func TestEngineFreed(t *testing.T) {
	for _, freed := range append(farNumbers(), -1, 0, 1, 600, 2759, 2760, 2761, 1<<32) {
		e := emptyEngine(wantStart(601))
		e.Freed = freed
		checkEngine(t, fmt.Sprint("freed ", freed), e, inside(freed, 0, 2760))
	}
	for _, freed := range []int64{1, 2, 600, 2759, 2760} {
		for _, ahead := range []int64{-1, 0, 1} {
			e := emptyEngine(5)
			e.Freed = freed
			if month := freed + ahead; month <= lastMonth {
				e.Windows = []impl.Window{windowIn("ann", month, "cpu", 5)}
				checkEngine(t, fmt.Sprint("a window ", ahead, " from ", freed), e, ahead >= 0)
				e.Windows = []impl.Window{windowIn("ann", lastMonth, "cpu", 5), windowIn("bob", month, "cpu", 5)}
				checkEngine(t, fmt.Sprint("another window ", ahead, " from ", freed), e, ahead >= 0)
			}
			e.Windows = nil
			e.Seen = []impl.Entry{{Id: "a", Minute: wantStart(freed) + ahead}}
			checkEngine(t, fmt.Sprint("an entry ", ahead, " from ", freed), e, ahead >= 0)
			e.Seen = []impl.Entry{{Id: "A", Minute: impl.MaxMinute}, {Id: "a", Minute: wantStart(freed) + ahead}}
			checkEngine(t, fmt.Sprint("another entry ", ahead, " from ", freed), e, ahead >= 0)
		}
	}
}

func TestTakeWrongEvents(t *testing.T) {
	for _, x := range wrongEvents() {
		checkUseCode(t, "not right "+told(x), someEngine(), x, impl.ErrForm)
		e := someEngine()
		e.Freed = -1
		checkUseCode(t, "both not right "+told(x), e, x, impl.ErrForm)
	}
}

// TestTakeLate lays events around the mark less Lateness, with the least mark in each place.
func TestTakeLate(t *testing.T) {
	for place := range impl.MaxSources {
		for _, mark := range []int64{0, 1, 2880, 2881, 2882, 50000, wantStart(601), impl.MaxMinute} {
			e := emptyEngine(0)
			e.Sources = markedSources(impl.MaxMinute, impl.MaxMinute, impl.MaxMinute)
			e.Sources[place].Mark = mark
			for _, below := range []int64{-1, 0, 1, 2879, 2880, 2881, 2882, 60000} {
				x := someUse("new")
				x.Minute = mark - below
				if !inside(x.Minute, 0, impl.MaxMinute) {
					continue
				}
				want := int64(impl.OK)
				if below > 2880 {
					want = impl.ErrLate
				}
				what := fmt.Sprint(below, " below ", mark, " at ", place)
				is(t, what, checkUse(t, what, e, x).Code, want)
			}
		}
	}
}

// TestTakeBelowFreed lays events around the first minute of Freed: how far the mark is does not matter there.
func TestTakeBelowFreed(t *testing.T) {
	for _, freed := range []int64{1, 2, 600, 2759, 2760} {
		for _, mark := range []int64{0, wantStart(freed), wantStart(freed) + 100} {
			e := emptyEngine(mark)
			e.Freed = freed
			for _, ahead := range []int64{-40000, -1, 0, 1, 5000} {
				x := someUse("new")
				x.Minute = max(wantStart(freed)+ahead, 0)
				want := int64(impl.OK)
				if ahead < 0 {
					want = impl.ErrLate
				}
				what := fmt.Sprint(ahead, " from ", freed, " at ", mark)
				is(t, what, checkUse(t, what, e, x).Code, want)
			}
		}
	}
}

func TestTakeNone(t *testing.T) {
	for _, meter := range []string{"a", "cp", "cpu_", "cpuu", "dis", "disk0", "z", "bob"} {
		x := someUse("new")
		x.Meter = meter
		checkUseCode(t, "no meter "+meter, someEngine(), x, impl.ErrNone)
	}
	e := someEngine()
	e.Catalog, e.Windows = impl.Catalog{}, nil
	checkUseCode(t, "a catalog of nothing", e, someUse("new"), impl.ErrNone)
	for _, meter := range []string{"cpu", "disk", "net"} {
		x := someUse("new")
		x.Meter = meter
		is(t, "the meter "+meter, checkUse(t, "the meter "+meter, someEngine(), x).Code, int64(impl.OK))
	}
}

func TestTakeSeen(t *testing.T) {
	x := someUse("new")
	e := checkUse(t, "once", someEngine(), x).Engine
	checkUseCode(t, "twice", e, x, impl.ErrThere)
	for _, other := range turnedEvents(x) {
		if other.Id == x.Id && impl.EventRight(other) && other.Minute >= wantStart(601)-2880 && slices.Contains([]string{"cpu", "disk", "net"}, other.Meter) {
			checkUseCode(t, "another one of its Id "+told(other), e, other, impl.ErrClash)
		}
	}
	other := x
	other.Amount++
	checkUseCode(t, "of another Amount", e, other, impl.ErrClash)
	other = x
	other.Account = "ann"
	checkUseCode(t, "of another account", e, other, impl.ErrClash)
	other = x
	other.Minute = wantStart(602)
	checkUseCode(t, "of another month", e, other, impl.ErrClash)
	e.Seen = someEntries(impl.MaxSeen)
	for i := range e.Seen {
		e.Seen[i].Minute += wantStart(600)
	}
	checkUseCode(t, "MaxSeen entries", e, x, impl.ErrFull)
	e.Seen = e.Seen[:impl.MaxSeen-1]
	is(t, "room for one", checkUse(t, "room for one", e, x).Code, int64(impl.OK))
}

func TestTakeInFullWindows(t *testing.T) {
	limits := map[string]func(w *impl.Window){
		"tags":   func(w *impl.Window) { w.Tags = someTags(impl.MaxTags) },
		"hours":  func(w *impl.Window) { *w = withHours(*w, hourSums(1, someSums(impl.MaxHours)...)) },
		"events": func(w *impl.Window) { w.Events = 1000 },
		"sum":    func(w *impl.Window) { *w = withHours(*w, hourSums(1, mostUsed-4)) },
	}
	for name, limit := range limits {
		e := emptyEngine(5)
		w := usedBy("bob", "cpu", 5)
		limit(&w)
		e.Windows = []impl.Window{usedBy("ann", "cpu", 5), w, usedBy("bob", "disk", 5)}
		x := impl.Event{Id: "new", Account: "bob", Meter: "cpu", Minute: wantStart(1) + 13*60, Amount: 5, Tag: "other"}
		is(t, name, checkUse(t, name, e, x).Code, int64(impl.ErrFull))
		x.Account = "ann"
		is(t, name+" of another account", checkUse(t, name+" of another account", e, x).Code, int64(impl.OK))
		x.Account, x.Meter = "bob", "disk"
		is(t, name+" of another meter", checkUse(t, name+" of another meter", e, x).Code, int64(impl.OK))
		x.Meter, x.Minute = "cpu", wantStart(2)
		is(t, name+" of another month", checkUse(t, name+" of another month", e, x).Code, int64(impl.OK))
	}
	e := emptyEngine(5)
	w := withHours(usedBy("bob", "cpu", 5), hourSums(1, someSums(impl.MaxHours)...))
	w.Tags, w.Events = someTags(impl.MaxTags), 999
	e.Windows = []impl.Window{w}
	x := impl.Event{Id: "new", Account: "bob", Meter: "cpu", Minute: wantStart(1) + 2*60, Amount: 5, Tag: "t005"}
	is(t, "just what may be", checkUse(t, "just what may be", e, x).Code, int64(impl.OK))
}

func TestTakeMaxWindows(t *testing.T) {
	for _, count := range []int{0, 1, impl.MaxWindows - 1, impl.MaxWindows} {
		e := emptyEngine(5)
		e.Windows = someWindows(count)
		for i, x := range []impl.Event{someUse("new"), someUse("new"), someUse("new")} {
			x.Account = []string{"a", "a000a", "zoe"}[i]
			want := int64(impl.OK)
			if count == impl.MaxWindows {
				want = impl.ErrFull
			}
			what := fmt.Sprint(x.Account, " behind ", count, " windows")
			is(t, what, checkUse(t, what, e, x).Code, want)
		}
		for i, w := range e.Windows {
			x := impl.Event{Id: "new", Account: w.Account, Meter: w.Meter, Minute: wantStart(w.Month), Amount: 1}
			is(t, fmt.Sprint("into the window ", i), checkUse(t, fmt.Sprint("into the window ", i), e, x).Code, int64(impl.OK))
		}
	}
}

// TestTakePlaces lays windows of all orders: a new one stands in its place among the others.
func TestTakePlaces(t *testing.T) {
	draws := sameDraws()
	accounts, meters := []string{"a", "a0", "aa", "b"}, []string{"cpu", "disk", "net"}
	for i := range 150 {
		e := emptyEngine(0)
		for k := range 24 {
			month := []int64{9, 10, 100, 1000}[draws.Intn(4)]
			x := impl.Event{Id: fmt.Sprint("e", k), Account: accounts[draws.Intn(4)], Meter: meters[draws.Intn(3)], Minute: wantStart(month) + draws.Int63n(600), Amount: draws.Int63n(9)}
			if got := checkUse(t, fmt.Sprint("use ", k, " of ", i), e, x); got.Code == impl.OK {
				e = got.Engine
			}
		}
		is(t, "as many windows as may be", len(e.Windows) > 10, true)
	}
}

// TestTakeOrder lays a fault with all those that are named behind it.
func TestTakeOrder(t *testing.T) {
	e := emptyEngine(wantStart(601))
	e.Windows = someWindows(impl.MaxWindows)
	x := someUse("k000")
	e.Seen = someEntries(impl.MaxSeen)
	for i := range e.Seen {
		e.Seen[i].Minute += wantStart(600)
	}
	none := x
	none.Meter = "nothing"
	e.Seen[0] = wantEntry(x)
	checkUseCode(t, "there, ahead of full", e, x, impl.ErrThere)
	e.Seen[0].Sum ^= 1
	checkUseCode(t, "another one, ahead of full", e, x, impl.ErrClash)
	checkUseCode(t, "no meter, ahead of another one", e, none, impl.ErrNone)
	e.Seen[0] = wantEntry(none)
	checkUseCode(t, "no meter, ahead of there", e, none, impl.ErrNone)
	late := none
	late.Minute = wantStart(601) - 2881
	e.Seen[0] = wantEntry(late)
	checkUseCode(t, "late, ahead of no meter", e, late, impl.ErrLate)
	e.Freed, e.Windows = 601, nil
	for i := range e.Seen {
		e.Seen[i].Minute = wantStart(601)
	}
	late.Minute = wantStart(601) - 1
	checkUseCode(t, "below Freed, ahead of no meter", e, late, impl.ErrLate)
	late.Amount = -1
	checkUseCode(t, "not right, ahead of late", e, late, impl.ErrForm)
	e.Freed = 602
	checkUseCode(t, "an engine that is not right, ahead of late", e, none, impl.ErrForm)
}

func TestIngestRefuses(t *testing.T) {
	batch := impl.BatchBytes([]impl.Event{someUse("a"), someUse("b")})
	ask := func(e impl.Engine, text string) impl.EngineOut {
		return asked(t, "a batch "+told(text), e, func(e impl.Engine) impl.EngineOut { return impl.Ingest(e, text) })
	}
	wrong := someEngine()
	wrong.Freed = -1
	for end := range len(batch) {
		is(t, fmt.Sprint("the first ", end, " bytes"), ask(someEngine(), batch[:end]), impl.EngineOut{Code: impl.ErrSyntax})
	}
	is(t, "one byte more", ask(someEngine(), batch+"\x00"), impl.EngineOut{Code: impl.ErrSyntax})
	is(t, "one event that is not right", ask(someEngine(), nums(2)+eventBytes(someUse("a"))+eventBytes(someUse(""))), impl.EngineOut{Code: impl.ErrSyntax})
	many := nums(21)
	for i := range 21 {
		many += eventBytes(someUse(fmt.Sprint("e", i)))
	}
	is(t, "more than MaxBatch", ask(someEngine(), many), impl.EngineOut{Code: impl.ErrSyntax})
	for _, size := range []int{impl.MaxBytes - 1, impl.MaxBytes, impl.MaxBytes + 1, 2 * impl.MaxBytes} {
		text := batch + longText(size-len(batch))
		code := int64(impl.ErrSyntax)
		if size > 8000 {
			code = impl.ErrSize
		}
		is(t, fmt.Sprint(size, " bytes"), ask(someEngine(), text), impl.EngineOut{Code: code})
		if size <= 8000 {
			code = impl.ErrForm
		}
		is(t, fmt.Sprint(size, " bytes, and an engine that is not right"), ask(wrong, text), impl.EngineOut{Code: code})
	}
	is(t, "an engine that is not right", ask(wrong, batch), impl.EngineOut{Code: impl.ErrForm})
	is(t, "neither is right", ask(wrong, ""), impl.EngineOut{Code: impl.ErrForm})
}

func TestIngestNone(t *testing.T) {
	is(t, "a batch of no events", impl.Ingest(someEngine(), "\x00"), impl.EngineOut{Engine: someEngine()})
	checkIngest(t, "a batch of no events", someEngine(), nil)
	late := someUse("late")
	late.Minute = 0
	got := checkIngest(t, "none is taken", someEngine(), []impl.Event{late})
	is(t, "none is taken", got, impl.EngineOut{Engine: someEngine(), Counts: impl.Counts{Late: 1}})
}

// TestIngestCounts lays one event of each outcome in each place among others: it is counted there, and the others are taken behind it.
func TestIngestCounts(t *testing.T) {
	there, clash, late, none, full := someUse("there"), someUse("k1"), someUse("late"), someUse("none"), someUse("full")
	late.Minute, none.Meter, full.Meter, full.Tag = wantStart(601)-2881, "nothing", "net", "z"
	e := someEngine()
	w := windowIn("bob", 601, "net", 5)
	w.Tags = someTags(impl.MaxTags)
	e.Windows = append(e.Windows, w)
	e.Seen = append(e.Seen, wantEntry(there))
	by := map[impl.Event]impl.Counts{
		there: {Took: 3, Twice: 1}, clash: {Took: 3, Clash: 1}, late: {Took: 3, Late: 1}, none: {Took: 3, Other: 1}, full: {Took: 3, Other: 1}, someUse("new"): {Took: 4},
	}
	for x, want := range by {
		for place := range 4 {
			events := slices.Insert([]impl.Event{someUse("a"), someUse("b"), someUse("c")}, place, x)
			what := fmt.Sprint(x.Id, " at ", place)
			is(t, what, checkIngest(t, what, e, events).Counts, want)
		}
	}
	all := []impl.Event{there, clash, late, none, full, someUse("a"), someUse("a"), late, clash}
	is(t, "all of them", checkIngest(t, "all of them", e, all).Counts, impl.Counts{Took: 1, Twice: 2, Clash: 2, Late: 2, Other: 2})
}

// TestIngestOneByOne holds a batch against its events, one call each.
func TestIngestOneByOne(t *testing.T) {
	e := someEngine()
	x, same, other := someUse("x"), someUse("x"), someUse("x")
	other.Amount = 6
	is(t, "one id", checkIngest(t, "one id", e, []impl.Event{x, same, other, same, other}).Counts, impl.Counts{Took: 1, Twice: 2, Clash: 2})
	is(t, "the other one first", checkIngest(t, "the other one first", e, []impl.Event{other, x, same, other}).Counts, impl.Counts{Took: 1, Twice: 1, Clash: 2})
	var many []impl.Event
	for i := range impl.MaxBatch {
		many = append(many, someUse(fmt.Sprint("n", i)))
	}
	got := checkIngest(t, "MaxBatch", e, many)
	is(t, "MaxBatch", got.Counts, impl.Counts{Took: 20})
	is(t, "MaxBatch again", checkIngest(t, "MaxBatch again", got.Engine, many).Counts, impl.Counts{Twice: 20})
	one := impl.EngineOut{Engine: e}
	for _, x := range many {
		one = impl.Take(one.Engine, x)
	}
	is(t, "one by one", plain(one.Engine), got.Engine)
	e.Seen = someEntries(impl.MaxSeen - 3)
	for i := range e.Seen {
		e.Seen[i].Minute += wantStart(600)
	}
	is(t, "room for three", checkIngest(t, "room for three", e, append(many[:6:6], many[0])).Counts, impl.Counts{Took: 3, Twice: 1, Other: 3})
}

func TestTick(t *testing.T) {
	east, west := wantStart(601)+100, wantStart(601)
	for _, mark := range append(farNumbers(), -2, 0, 1, west-1, west, west+1, east-1, east, east+1, impl.MaxMinute-1, impl.MaxMinute, impl.MaxMinute+1) {
		for source, least := range map[string]int64{"east": east, "west": west} {
			what := fmt.Sprint(source, " to ", mark)
			want := impl.EngineOut{Code: impl.ErrRange}
			if inside(mark, least, 121000000) {
				want = impl.EngineOut{Engine: someEngine()}
				want.Engine.Sources[map[string]int{"east": 0, "west": 1}[source]].Mark = mark
			}
			is(t, what, checkTick(t, what, someEngine(), source, mark), want)
		}
		for _, source := range append(wrongNames(), "a", "eas", "east_", "north", "wesu", "zzz", longText(20)) {
			code := int64(impl.ErrNone)
			if len(source) > 8000 {
				code = impl.ErrSize
			}
			is(t, "no source "+told(source), impl.Tick(someEngine(), source, mark), impl.EngineOut{Code: code})
		}
	}
}

// TestTickOrder: too long a source ahead of all, then the engine, then the source, then the mark.
func TestTickOrder(t *testing.T) {
	wrong := someEngine()
	wrong.Freed = -1
	for _, mark := range []int64{-1, 0, impl.MaxMinute, impl.MaxMinute + 1} {
		is(t, "too long", impl.Tick(wrong, longText(impl.MaxBytes+1), mark), impl.EngineOut{Code: impl.ErrSize})
		is(t, "too long, and a right engine", impl.Tick(someEngine(), longText(impl.MaxBytes+1), mark), impl.EngineOut{Code: impl.ErrSize})
		is(t, "MaxBytes bytes", impl.Tick(wrong, longText(impl.MaxBytes), mark), impl.EngineOut{Code: impl.ErrForm})
		is(t, "an engine that is not right", impl.Tick(wrong, "east", mark), impl.EngineOut{Code: impl.ErrForm})
		is(t, "MaxBytes bytes, and a right engine", impl.Tick(someEngine(), longText(impl.MaxBytes), mark), impl.EngineOut{Code: impl.ErrNone})
		is(t, "no source", impl.Tick(someEngine(), "", mark), impl.EngineOut{Code: impl.ErrNone})
	}
}

// TestMarksGoOn is the first half of promise 19, of ticks of three sources.
func TestMarksGoOn(t *testing.T) {
	e := emptyEngine(0)
	e.Sources = markedSources(0, 0, 0)
	steps := []struct {
		source string
		mark   int64
		least  int64
	}{{"s0", 50, 0}, {"s1", 40, 0}, {"s2", 60, 40}, {"s1", 40, 40}, {"s1", 70, 50}, {"s0", 60, 60}, {"s0", impl.MaxMinute, 60}, {"s2", 100, 70}, {"s1", 200, 100}}
	for _, step := range steps {
		got := checkTick(t, step.source, e, step.source, step.mark)
		is(t, fmt.Sprint(step.source, " to ", step.mark), []int64{got.Code, impl.MarkOf(got.Engine)}, []int64{impl.OK, step.least})
		e = got.Engine
		is(t, "back by one", impl.Tick(e, step.source, step.mark-1), impl.EngineOut{Code: impl.ErrRange})
	}
}

// TestCloseEdges lays the mark around the end of a month, and around where it is done with.
func TestCloseEdges(t *testing.T) {
	for _, month := range []int64{0, 1, 599, 600, 2758, 2759} {
		end := wantStart(month + 1)
		by := []struct {
			mark  int64
			due   bool
			freed int64
		}{{end - 1, false, month}, {end, true, month}, {end + 1, true, month}, {end + 2879, true, month}, {end + 2880, true, month + 1}, {end + 2881, true, month + 1}}
		for _, at := range by {
			e := emptyEngine(at.mark)
			e.Windows = []impl.Window{windowIn("ann", month, "cpu", 5), windowIn("ann", month+1, "cpu", 7), windowIn("bob", month, "disk", 1)}
			e.Seen = []impl.Entry{{Id: "a", Minute: end - 1}, {Id: "b", Minute: end}, {Id: "c", Minute: wantStart(month)}, {Id: "d", Minute: end + 1}}
			what := fmt.Sprint("the mark ", at.mark-end, " from the end of ", month)
			got := checkClose(t, what, e)
			want := 0
			if at.due {
				want = 2
			}
			is(t, what+": docs", []int{len(got.Docs), len(got.Engine.Docs)}, []int{want, want})
			is(t, what+": freed", got.Engine.Freed, at.freed)
			left := []int{3, 4}
			if at.freed > month {
				left = []int{1, 2}
			}
			is(t, what+": what stays", []int{len(got.Engine.Windows), len(got.Engine.Seen)}, left)
		}
	}
}

// TestCloseTheLastMonth: it is over with MaxMinute, and is never done with.
func TestCloseTheLastMonth(t *testing.T) {
	for _, mark := range []int64{impl.MaxMinute - 1, impl.MaxMinute} {
		e := emptyEngine(mark)
		e.Windows = []impl.Window{windowIn("ann", 2759, "cpu", 5), windowIn("ann", 2760, "cpu", 7)}
		e.Seen = []impl.Entry{{Id: "a", Minute: wantStart(2760) - 1}, {Id: "b", Minute: wantStart(2760)}, {Id: "c", Minute: impl.MaxMinute}}
		want := ledgerAs("ann 2759 0 cpu=10")
		if mark == impl.MaxMinute {
			want = ledgerAs("ann 2759 0 cpu=10", "ann 2760 0 cpu=14")
		}
		what := fmt.Sprint("the mark ", mark)
		got := checkClose(t, what, e)
		is(t, what, got.Docs, want)
		is(t, what+": what stays", []any{len(got.Engine.Windows), len(got.Engine.Seen), got.Engine.Freed}, []any{1, 2, int64(2760)})
	}
	e := checkDrain(t, "drained", emptyEngine(0)).Engine
	x := impl.Event{Id: "x", Account: "ann", Meter: "cpu", Minute: impl.MaxMinute - 2880, Amount: 5}
	taken := checkUse(t, "in the last month", e, x)
	is(t, "taken still, then billed", checkClose(t, "once more", taken.Engine).Docs, ledgerAs("ann 2760 0 cpu=10"))
}

func TestCloseFreed(t *testing.T) {
	for _, freed := range []int64{0, 1, 599, 600, 601, 602, 2760} {
		e := emptyEngine(wantStart(601) + 2880)
		e.Freed = freed
		e.Windows = []impl.Window{windowIn("ann", 2760, "cpu", 5)}
		e.Seen = []impl.Entry{{Id: "a", Minute: impl.MaxMinute}}
		what := fmt.Sprint("freed ", freed)
		got := checkClose(t, what, e)
		is(t, what, got.Engine.Freed, max(freed, 601))
		is(t, what+": what stays", []int{len(got.Engine.Windows), len(got.Engine.Seen), len(got.Docs)}, []int{1, 1, 0})
	}
	for month := int64(0); month < 2760; month += 23 {
		is(t, fmt.Sprint("done with ", month), impl.CloseDue(emptyEngine(wantStart(month+1)+2880)).Engine.Freed, month+1)
		is(t, fmt.Sprint("not yet done with ", month), impl.CloseDue(emptyEngine(wantStart(month+1)+2879)).Engine.Freed, month)
	}
	for _, mark := range []int64{0, 1, 2879, 2880, 2881} {
		is(t, fmt.Sprint("the mark ", mark), impl.CloseDue(emptyEngine(mark)), impl.EngineOut{Engine: emptyEngine(mark)})
	}
}

// TestCloseOrder: the Docs come by Account, then by Month; those of one month are one Doc.
func TestCloseOrder(t *testing.T) {
	e := emptyEngine(wantStart(603))
	e.Windows = []impl.Window{
		windowIn("a", 602, "net", 1), windowIn("aa", 600, "cpu", 2), windowIn("aa", 600, "net", 3), windowIn("aa", 601, "cpu", 4), windowIn("aa", 603, "cpu", 5),
		windowIn("b", 5, "disk", 6), windowIn("b", 602, "cpu", 7), windowIn("b", 602, "disk", 8), windowIn("b", 602, "net", 9), windowIn("b", 604, "net", 10),
	}
	want := ledgerAs("a 602 0 net=2", "aa 600 0 cpu=4 net=6", "aa 601 0 cpu=8", "b 5 0 disk=12", "b 602 0 cpu=14 disk=16 net=18")
	is(t, "in order", checkClose(t, "in order", e).Docs, want)
	e.Docs = ledgerAs("aa 601 0 cpu=8", "b 602 0 cpu=1 disk=16 zz=3", "a 602 0", "other 602 0 cpu=14", "b 602 1 cpu=1")
	got := checkClose(t, "amended", e)
	is(t, "amended", got.Docs, ledgerAs("a 602 1 net=2", "aa 600 0 cpu=4 net=6", "b 5 0 disk=12", "b 602 2 cpu=12 net=18 zz=-3"))
	is(t, "of others", impl.NetNow(got.Engine, "other", 602), linesAs("cpu=14"))
}

// TestCloseCredits: a credit is drawn upon in each month anew, and a month of nothing has a Doc of no lines, once.
func TestCloseCredits(t *testing.T) {
	e := emptyEngine(wantStart(602))
	e.Catalog.Credits = []impl.Credit{{Account: "ann", Micro: 15}}
	e.Windows = []impl.Window{windowIn("ann", 600, "cpu", 5), windowIn("ann", 600, "disk", 5), windowIn("ann", 601, "cpu", 7), windowIn("bob", 601, "cpu", 0)}
	got := checkClose(t, "credits", e)
	is(t, "credits", got.Docs, ledgerAs("ann 600 0 disk=5", "ann 601 0", "bob 601 0"))
	is(t, "once", len(checkClose(t, "once", got.Engine).Docs), 0)
}

// TestCloseBillCodes: an account and month whose bill can't be told has no Doc, and holds no other one up.
func TestCloseBillCodes(t *testing.T) {
	over, just := int64(1000000001), int64(1000000000)
	for place := range 4 {
		e := emptyEngine(wantStart(602))
		e.Catalog = dearCatalog("cpu", "disk", "net")
		e.Catalog.Credits = nil
		e.Windows = []impl.Window{windowIn("ann", 600, "cpu", just), windowIn("ann", 601, "disk", just), windowIn("bob", 600, "net", just), windowIn("cyd", 601, "cpu", just)}
		e.Windows[place] = windowIn(e.Windows[place].Account, e.Windows[place].Month, e.Windows[place].Meter, over)
		w := e.Windows[place]
		what := fmt.Sprint("over at ", place)
		is(t, what+": its bill", impl.BillNow(e, w.Account, w.Month), impl.BillOut{Code: impl.ErrOver})
		got := checkClose(t, what, e)
		all := ledgerAs("ann 600 0 cpu=1000000000000000", "ann 601 0 disk=1000000000000000", "bob 600 0 net=1000000000000000", "cyd 601 0 cpu=1000000000000000")
		is(t, what, got.Docs, slices.Delete(all, place, place+1))
	}
}

// TestCloseIssueCodes: what can't be issued, for it runs over, or nothing is new, has no Doc, and holds no other one up.
func TestCloseIssueCodes(t *testing.T) {
	e := emptyEngine(wantStart(602))
	e.Windows = []impl.Window{windowIn("ann", 600, "cpu", 5), windowIn("bob", 600, "cpu", 6), windowIn("cyd", 600, "cpu", 7)}
	e.Docs = ledgerAs("bob 600 0 cpu=12", "ann 600 0 cpu=-1000000000000000")
	is(t, "over, and there", checkClose(t, "over, and there", e).Docs, ledgerAs("cyd 600 0 cpu=14"))
	e.Docs = ledgerAs("cyd 600 0 cpu=-1000000000000000", "bob 600 0 cpu=-1000000000000000")
	is(t, "over behind", checkClose(t, "over behind", e).Docs, ledgerAs("ann 600 0 cpu=10"))
	e.Docs = ledgerAs("cyd 600 0 cpu=-999999999999986", "ann 600 0 cpu=-999999999999991")
	is(t, "just over, and just not", checkClose(t, "just over, and just not", e).Docs, ledgerAs("bob 600 0 cpu=12", "cyd 600 1 cpu=1000000000000000"))
}

// TestCloseFull leaves room for fewer Docs than are due; what has nothing new needs none, and the windows go all the same.
func TestCloseFull(t *testing.T) {
	want := ledgerAs("ann 600 0 cpu=10", "cyd 600 0 cpu=14", "dan 600 0 cpu=16")
	for room := range 5 {
		e := emptyEngine(wantStart(601))
		e.Windows = []impl.Window{windowIn("ann", 600, "cpu", 5), windowIn("bob", 600, "cpu", 6), windowIn("cyd", 600, "cpu", 7), windowIn("dan", 600, "cpu", 8)}
		e.Docs = ledgerAs("bob 600 0 cpu=12")
		for i := range impl.MaxDocs - room - 1 {
			e.Docs = append(e.Docs, impl.Doc{Account: "other", Month: int64(i)})
		}
		what := fmt.Sprint("room for ", room)
		got := checkClose(t, what, e)
		is(t, what, got.Docs, plain(want[:min(room, 3)]))
		is(t, what+": closed again", len(checkClose(t, what+", closed again", got.Engine).Docs), 0)
		is(t, what+": the windows stay", len(got.Engine.Windows), 4)
		e.Sources[0].Mark += 2880
		got = checkClose(t, what+", and done with", e)
		is(t, what+", and done with", got.Docs, plain(want[:min(room, 3)]))
		is(t, what+": the windows go", len(got.Engine.Windows), 0)
	}
}

// TestCloseManyMeters: a Doc takes back what is of meters that are sold no more, however many lines that makes. Such a Doc is not right, so that nothing is issued behind it.
func TestCloseManyMeters(t *testing.T) {
	e := emptyEngine(wantStart(601))
	e.Windows = []impl.Window{windowIn("ann", 600, "cpu", 5), windowIn("bob", 600, "cpu", 6)}
	e.Docs = ledgerAs("ann 600 0 a=1 b=2 c=3 d=4 e=5")
	is(t, "six lines", checkClose(t, "six lines", e).Docs, ledgerAs("ann 600 1 a=-1 b=-2 c=-3 cpu=10 d=-4 e=-5", "bob 600 0 cpu=12"))
	e.Docs = ledgerAs("ann 600 0 a=1 b=2 c=3 d=4 e=5 f=6")
	is(t, "seven lines", checkClose(t, "seven lines", e).Docs, ledgerAs("ann 600 1 a=-1 b=-2 c=-3 cpu=10 d=-4 e=-5 f=-6"))
}

func TestDrain(t *testing.T) {
	e := someEngine()
	got := checkDrain(t, "some engine", e)
	is(t, "docs", got.Docs, ledgerAs("ann 600 2 cpu=3 disk=16", "ann 601 0 cpu=15", "bob 600 0 net=22"))
	is(t, "sources", got.Engine.Sources, []impl.Source{{Name: "east", Mark: impl.MaxMinute}, {Name: "west", Mark: impl.MaxMinute}})
	is(t, "freed", got.Engine.Freed, int64(2760))
	again := checkDrain(t, "drained again", got.Engine)
	is(t, "again", again, impl.EngineOut{Engine: got.Engine})
	for count := 1; count <= impl.MaxSources; count++ {
		e.Sources = markedSources([]int64{0, impl.MaxMinute, 7}[:count]...)
		got := checkDrain(t, fmt.Sprint(count, " sources"), e)
		is(t, fmt.Sprint(count, " sources"), got.Engine.Sources, markedSources(slices.Repeat([]int64{impl.MaxMinute}, count)...))
	}
	e.Freed = 602
	is(t, "not right", impl.Drain(e), impl.EngineOut{Code: impl.ErrForm})
}

func TestNetNow(t *testing.T) {
	e := someEngine()
	is(t, "ann", impl.NetNow(e, "ann", 600), linesAs("cpu=4 disk=-2"))
	is(t, "cyd, of a month that is done with", impl.NetNow(e, "cyd", 599), linesAs("disk=8"))
	for _, account := range append(wrongNames(), "an", "annn", "bob", longText(impl.MaxBytes), longText(impl.MaxBytes+1)) {
		is(t, "no net of "+told(account), len(impl.NetNow(e, account, 600)), 0)
	}
	for _, month := range append(farNumbers(), 0, 599, 601, 2760, 2761) {
		is(t, fmt.Sprint("no net of the month ", month), len(impl.NetNow(e, "ann", month)), 0)
	}
	e.Docs = ledgerAs("ann 0 0 cpu=5", "ann 2760 0 cpu=6")
	is(t, "the first month, and the one ahead", []any{impl.NetNow(e, "ann", 0), len(impl.NetNow(e, "ann", -1))}, []any{linesAs("cpu=5"), 0})
	is(t, "the last month, and the one behind", []any{impl.NetNow(e, "ann", 2760), len(impl.NetNow(e, "ann", 2761))}, []any{linesAs("cpu=6"), 0})
	e.Docs = ledgerAs("ann 600 0 cpu=5 disk=3", "ann 600 1 cpu=-5", "ann 600 2 a=1 b=2 c=3 d=4 e=5 f=6")
	is(t, "more than MaxMeters lines", impl.NetNow(e, "ann", 600), linesAs("a=1 b=2 c=3 d=4 disk=3 e=5 f=6"))
	for i := range impl.MaxWindows {
		e.Docs = append(e.Docs, impl.Doc{Account: "bob", Month: int64(i)})
	}
	checkRightEngine(t, "more docs", e)
	e.Freed = 601
	is(t, "not right", len(impl.NetNow(e, "ann", 600)), 0)
}

func TestBillNow(t *testing.T) {
	e := someEngine()
	is(t, "ann", impl.BillNow(e, "ann", 600), impl.BillOut{Lines: linesAs("cpu=7 disk=14")})
	is(t, "ann, of the next month", impl.BillNow(e, "ann", 601), impl.BillOut{Lines: linesAs("cpu=15")})
	is(t, "bob", impl.BillNow(e, "bob", 600), impl.BillOut{Lines: linesAs("net=22")})
	for _, month := range append(farNumbers(), 0, 599, 602, 2760, 2761) {
		is(t, fmt.Sprint("nothing in the month ", month), plain(impl.BillNow(e, "ann", month)), impl.BillOut{})
	}
	is(t, "another account", plain(impl.BillNow(e, "an", 600)), impl.BillOut{})
	wrong := someEngine()
	wrong.Freed = -1
	for _, account := range append(wrongNames(), longText(impl.MaxBytes)) {
		code := int64(impl.ErrForm)
		if len(account) > 8000 {
			code = impl.ErrSize
		}
		is(t, "the account "+told(account), impl.BillNow(e, account, 600), impl.BillOut{Code: code})
		is(t, "neither is right "+told(account), impl.BillNow(wrong, account, 600), impl.BillOut{Code: code})
	}
	is(t, "too long, and nothing is right", impl.BillNow(wrong, longText(impl.MaxBytes+1), -1), impl.BillOut{Code: impl.ErrSize})
	e.Catalog, e.Windows = dearCatalog("cpu"), []impl.Window{windowIn("ann", 600, "cpu", 1000000001), windowIn("ann", 601, "cpu", 1)}
	is(t, "over", impl.BillNow(e, "ann", 600), impl.BillOut{Code: impl.ErrOver})
	is(t, "over in another month", plain(impl.BillNow(e, "ann", 601)), impl.BillOut{})
	e.Windows = someWindows(impl.MaxWindows)
	e.Catalog = flatCatalog("cpu", "net")
	is(t, "of MaxWindows", impl.BillNow(e, "a003", 601), impl.BillOut{Lines: linesAs("cpu=28 net=30")})
	checkRightEngine(t, "MaxWindows", e)
}

// anyUse draws a right Event near the marks of a drawn engine; few ids, so that some come twice, and some clash.
func anyUse(draws *rand.Rand, ids int) impl.Event {
	month := 600 + draws.Int63n(3)
	x := impl.Event{Id: fmt.Sprint("e", draws.Intn(ids)), Account: []string{"ann", "bob", "cy"}[draws.Intn(3)], Meter: []string{"cpu", "disk", "users"}[draws.Intn(3)]}
	x.Minute = wantStart(month) + []int64{draws.Int63n(600), wantEnd(month) - wantStart(month) - 1 - draws.Int63n(2*2880)}[draws.Intn(2)]
	x.Amount, x.Tag = draws.Int63n(150), []string{"", "t", "u", "v"}[draws.Intn(4)]
	if draws.Intn(25) == 0 {
		x.Meter = "nothing"
	}
	return x
}

// anyMark draws a mark around the ends of the months of anyUse.
func anyMark(draws *rand.Rand) int64 {
	return wantStart(600+draws.Int63n(4)) + draws.Int63n(4*2880) - 2880
}

// againOrAny draws one of the events that were handed in already, or another one.
func againOrAny(draws *rand.Rand, known []impl.Event) impl.Event {
	if len(known) > 0 && draws.Intn(3) == 0 {
		return known[draws.Intn(len(known))]
	}
	return anyUse(draws, 60)
}

// anyStep asks one call of a right engine, and tells the engine that it goes on from.
func anyStep(t *testing.T, what string, draws *rand.Rand, e impl.Engine, known []impl.Event, codes map[string]int) impl.Engine {
	t.Helper()
	var got impl.EngineOut
	name := []string{"take", "take", "ingest", "tick", "close"}[draws.Intn(5)]
	switch name {
	case "take":
		got = checkUse(t, what+": taken", e, againOrAny(draws, known))
	case "ingest":
		var events []impl.Event
		for range draws.Intn(8) {
			events = append(events, againOrAny(draws, known))
		}
		got = checkIngest(t, what+": taken in", e, events)
	case "tick":
		got = checkTick(t, what+": ticked", e, []string{"east", "west", "none"}[draws.Intn(3)], anyMark(draws))
	case "close":
		got = checkClose(t, what+": closed", e)
	}
	codes[fmt.Sprint(name, " ", got.Code)]++
	if got.Code != impl.OK {
		return e
	}
	return got.Engine
}

// TestEnginesStepByStep builds engines by calls: what an engine took it takes no more, and what was late stays late (promises 18 and 19).
func TestEnginesStepByStep(t *testing.T) {
	draws := sameDraws()
	codes := map[string]int{}
	for i := range 60 {
		e := impl.DeskEngine()
		var took, late []impl.Event
		for k := range 60 {
			what := fmt.Sprint("step ", k, " of ", i)
			x := anyUse(draws, 60)
			switch got := checkUse(t, what+": asked ahead", e, x); got.Code {
			case impl.OK:
				e, took = got.Engine, append(took, x)
			case impl.ErrLate:
				late = append(late, x)
			}
			e = anyStep(t, what, draws, e, slices.Concat(took, late), codes)
			for _, x := range took {
				code := impl.Take(e, x).Code
				is(t, what+": taken once", code == impl.ErrThere || code == impl.ErrLate, true)
			}
			for _, x := range late {
				is(t, what+": late once", impl.Take(e, x), impl.EngineOut{Code: impl.ErrLate})
			}
		}
		checkRightEngine(t, fmt.Sprint("engine ", i), e)
	}
	for _, name := range []string{"take 0", "take 6", "take 7", "take 9", "take 11", "take 13", "ingest 0", "tick 0", "tick 6", "tick 8", "close 0"} {
		is(t, "some of "+name, codes[name] > 0, true)
	}
}

// distinctUses draws right events that an engine takes all of: no two of one id, and few hours and tags in each window.
func distinctUses(draws *rand.Rand, count int) []impl.Event {
	var out []impl.Event
	for i := range count {
		x := anyUse(draws, 60)
		x.Id, x.Account, x.Meter = fmt.Sprint("e", i), []string{"ann", "bob"}[draws.Intn(2)], []string{"cpu", "disk", "users"}[draws.Intn(3)]
		month := 600 + draws.Int63n(2)
		x.Minute = wantEnd(month) - 1 - draws.Int63n(4)*700 - draws.Int63n(60)
		out = append(out, x)
	}
	return out
}

// firstMinute is the least Minute of events, or MaxMinute without any.
func firstMinute(events []impl.Event) int64 {
	first := int64(impl.MaxMinute)
	for _, x := range events {
		first = min(first, x.Minute)
	}
	return first
}

// anyDelivery hands events to an engine, some of them more than once, and ticks and closes in between as far as no event that is still to come is late.
func anyDelivery(t *testing.T, what string, draws *rand.Rand, events []impl.Event) impl.Engine {
	t.Helper()
	e, took := impl.DeskEngine(), int64(0)
	for at := 0; at < len(events); {
		next := min(len(events), at+1+draws.Intn(8))
		batch := slices.Clone(events[at:next])
		for range draws.Intn(5) {
			batch = append(batch, events[draws.Intn(next)])
		}
		draws.Shuffle(len(batch), func(a int, b int) { batch[a], batch[b] = batch[b], batch[a] })
		got := checkIngest(t, what, e, batch)
		is(t, what+": no clash, and no other", []int64{got.Counts.Clash, got.Counts.Other}, []int64{0, 0})
		e, at, took = got.Engine, next, took+got.Counts.Took
		mark := min(firstMinute(events[at:])+draws.Int63n(2881), impl.MaxMinute)
		for _, source := range []string{"east", "west"} {
			if ticked := checkTick(t, what, e, source, mark); ticked.Code == impl.OK && draws.Intn(3) > 0 {
				e = ticked.Engine
			}
		}
		if draws.Intn(3) == 0 {
			e = checkClose(t, what, e).Engine
		}
	}
	is(t, what+": all were taken", took, int64(len(events)))
	return checkDrain(t, what, e).Engine
}

// TestAnyOrderDrained is promise 21. Where documents could have run out it can't be asked.
func TestAnyOrderDrained(t *testing.T) {
	draws := sameDraws()
	amended := 0
	for i := range 60 {
		events := distinctUses(draws, 1+draws.Intn(36))
		first := impl.EngineOut{Engine: impl.DeskEngine()}
		for _, x := range events {
			first = impl.Take(first.Engine, x)
			is(t, "taken", first.Code, int64(impl.OK))
		}
		want := checkDrain(t, "in one go", first.Engine).Engine
		for k := range 6 {
			switch k {
			case 0:
				slices.Reverse(events)
			case 1:
				slices.SortFunc(events, func(a impl.Event, b impl.Event) int { return int(a.Minute - b.Minute) })
			default:
				draws.Shuffle(len(events), func(a int, b int) { events[a], events[b] = events[b], events[a] })
			}
			what := fmt.Sprint("order ", k, " of ", i)
			e := anyDelivery(t, what, draws, events)
			is(t, what+": there was room", len(e.Docs) < impl.MaxDocs, true)
			amended += len(e.Docs) - len(want.Docs)
			for _, account := range []string{"ann", "bob"} {
				for _, month := range []int64{600, 601} {
					is(t, fmt.Sprint(what, ": the net of ", account, " ", month), linesOrNone(impl.NetNow(e, account, month)), linesOrNone(impl.NetNow(want, account, month)))
				}
			}
		}
	}
	is(t, "some were amended", amended > 50, true)
}

// fullEngine has as much of all as may be, and room for one Entry, one Window and one Doc more.
func fullEngine() impl.Engine {
	e := emptyEngine(wantStart(601))
	e.Sources = markedSources(wantStart(601), wantStart(602), wantStart(601))
	e.Catalog.Credits = namedCredits("a000", "ann", "bob")
	e.Seen = someEntries(impl.MaxSeen - 1)
	for i := range e.Seen {
		e.Seen[i].Minute += wantStart(600)
	}
	e.Windows = someWindows(impl.MaxWindows - 1)
	for i := range e.Windows {
		e.Windows[i].Tags = someTags(impl.MaxTags)
	}
	e.Docs = someDocs(impl.MaxDocs - 1)
	return e
}

// engineCalls are all calls that answer an engine, each of one that it takes.
func engineCalls() map[string]func(impl.Engine) impl.EngineOut {
	use := impl.Event{Id: "new", Account: "zoe", Meter: "cpu", Minute: wantStart(602), Amount: 5, Tag: "tag"}
	in := impl.Event{Id: "old", Account: "a001", Meter: "net", Minute: wantStart(601), Amount: 5, Tag: "t001"}
	return map[string]func(impl.Engine) impl.EngineOut{
		"Take into a new window":   func(e impl.Engine) impl.EngineOut { return impl.Take(e, use) },
		"Take into a window":       func(e impl.Engine) impl.EngineOut { return impl.Take(e, in) },
		"Ingest":                   func(e impl.Engine) impl.EngineOut { return impl.Ingest(e, impl.BatchBytes([]impl.Event{use, in})) },
		"Ingest of nothing":        func(e impl.Engine) impl.EngineOut { return impl.Ingest(e, "\x00") },
		"Tick":                     func(e impl.Engine) impl.EngineOut { return impl.Tick(e, "s1", impl.MaxMinute) },
		"Tick to where it is":      func(e impl.Engine) impl.EngineOut { return impl.Tick(e, "s0", wantStart(601)) },
		"CloseDue":                 impl.CloseDue,
		"CloseDue once more":       func(e impl.Engine) impl.EngineOut { return impl.CloseDue(impl.CloseDue(e).Engine) },
		"Drain":                    impl.Drain,
		"Drain of what is drained": func(e impl.Engine) impl.EngineOut { return impl.Drain(impl.Drain(e).Engine) },
	}
}

// TestEngineAnswersAreNew spoils what was handed in, and one list of an answer after the other: nothing else may be turned by it.
func TestEngineAnswersAreNew(t *testing.T) {
	for name, call := range engineCalls() {
		given := fullEngine()
		got := call(given)
		is(t, name+" is taken", got.Code, int64(impl.OK))
		isNew(t, name, got, given)
		want := plain(got)
		spoilEngine(given)
		is(t, name+": what was handed in is turned", plain(got), want)
		docs := plain(got.Docs)
		spoilEngine(got.Engine)
		is(t, name+": the Docs beside the engine", plain(got.Docs), docs)
		again := call(fullEngine())
		spoilDocs(again.Docs)
		is(t, name+": the engine beside the Docs", plain(again.Engine), want.Engine)
	}
	e := someEngine()
	net, bill := impl.NetNow(e, "ann", 600), impl.BillNow(e, "ann", 600)
	isNew(t, "a net", net, e)
	isNew(t, "a bill", bill, e)
	spoilEngine(e)
	is(t, "the net ahead of that", net, linesAs("cpu=4 disk=-2"))
	is(t, "the bill ahead of that", bill.Lines, linesAs("cpu=7 disk=14"))
}

// spoilEngine turns all that an Engine holds, and what room it has behind.
func spoilEngine(e impl.Engine) {
	spoilCatalog(e.Catalog)
	spoilEntries(e.Seen)
	spoilDocs(e.Docs)
	for i := range e.Windows {
		spoilWindow(e.Windows[i])
		e.Windows[i] = impl.Window{Account: "spoiled"}
	}
	for i := range e.Sources {
		e.Sources[i] = impl.Source{Name: "spoiled", Mark: -1}
	}
}

// TestEngineTextsAreNew hands in texts of which no other one lies in the same place.
func TestEngineTextsAreNew(t *testing.T) {
	name := func(letter string) string { return strings.Repeat(letter, 20) }
	c := flatCatalog(name("m"))
	c.Credits = []impl.Credit{{Account: name("c"), Micro: 1}}
	names := []string{name("s")}
	e := impl.EngineNew(c, names).Engine
	isNew(t, "EngineNew", e, c, names)
	x := impl.Event{Id: name("i"), Account: name("a"), Meter: name("m"), Amount: 5, Tag: strings.Repeat("t", 10)}
	taken := impl.Take(e, x)
	isNew(t, "Take", taken, e, x)
	batch := impl.BatchBytes([]impl.Event{x})
	isNew(t, "Ingest", impl.Ingest(e, batch), e, x, batch)
	source := name("s")
	isNew(t, "Tick", impl.Tick(taken.Engine, source, 5), taken, source)
	drained := impl.Drain(taken.Engine)
	isNew(t, "Drain", drained, taken)
	account := name("a")
	isNew(t, "NetNow", impl.NetNow(drained.Engine, account, 0), drained, account)
	isNew(t, "BillNow", impl.BillNow(taken.Engine, account, 0), taken, account)
}

// TestEngineLeavesRoomBehind hands in lists that have room behind their end: nothing may be laid there.
func TestEngineLeavesRoomBehind(t *testing.T) {
	for _, made := range []func() impl.Engine{someEngine, fullEngine, impl.DeskEngine} {
		for name, call := range engineCalls() {
			e := roomy(made())
			call(e)
			is(t, name+": the room behind", roomEmpty(reflect.ValueOf(e)), true)
			is(t, name+": left as it was", plain(e), plain(made()))
		}
		e := roomy(made())
		checkRightEngine(t, "with room behind", e)
		is(t, "the room behind", roomEmpty(reflect.ValueOf(e)), true)
	}
}
