package tests

import (
	"fmt"
	"math"
	"math/rand"
	"slices"
	"strconv"
	"strings"
	"testing"

	"loop.example/g00562/impl"
)

// docAs reads a Doc as it is written out: Account, Month, Seq and the lines, with blanks between.
func docAs(text string) impl.Doc {
	words := strings.Fields(text)
	var numbers [2]int64
	for i := range numbers {
		n, err := strconv.ParseInt(words[i+1], 10, 64)
		if err != nil {
			panic(err) // the test itself is written wrong
		}
		numbers[i] = n
	}
	return impl.Doc{Account: words[0], Month: numbers[0], Seq: numbers[1], Lines: linesAs(strings.Join(words[3:], " "))}
}

// ledgerAs reads Docs, each as docAs does.
func ledgerAs(texts ...string) []impl.Doc {
	var out []impl.Doc
	for _, text := range texts {
		out = append(out, docAs(text))
	}
	return out
}

// someDoc is right; a test turns the field that it asks for.
func someDoc() impl.Doc {
	return docAs("ann 600 0 cpu=100 disk=-5")
}

// someDocs are a right ledger, while they are no more than may be: three accounts and two months take turns, and each sixth Doc is the next one of its row.
func someDocs(count int) []impl.Doc {
	var out []impl.Doc
	for i := range count {
		d := impl.Doc{Account: []string{"bob", "ann", "cy"}[i%3], Month: int64(i % 2), Seq: int64(i / 6), Lines: someLines(1 + i%impl.MaxMeters)}
		if i%5 == 0 && i < 6 {
			d.Lines = nil
		}
		out = append(out, d)
	}
	return out
}

// rowOf are Docs of one account and month, with one line each, of these Micros.
func rowOf(account string, month int64, meter string, micros ...int64) []impl.Doc {
	var out []impl.Doc
	for i, micro := range micros {
		out = append(out, impl.Doc{Account: account, Month: month, Seq: int64(i), Lines: []impl.Line{{Meter: meter, Micro: micro}}})
	}
	return out
}

// greatDocs have the greatest number of bytes that a right ledger can have.
func greatDocs() []impl.Doc {
	var out []impl.Doc
	for i := range impl.MaxDocs {
		d := impl.Doc{Account: fmt.Sprintf("a%019d", i), Month: lastMonth}
		for k := range impl.MaxMeters {
			d.Lines = append(d.Lines, impl.Line{Meter: fmt.Sprintf("m%019d", k), Micro: []int64{-most, most}[k%2]})
		}
		out = append(out, d)
	}
	return out
}

// keptDocs is a copy that no call can reach.
func keptDocs(l []impl.Doc) []impl.Doc {
	kept := slices.Clone(l)
	for i := range kept {
		kept[i].Lines = slices.Clone(kept[i].Lines)
	}
	return kept
}

// docsOrNone makes none of each empty list, for both are the same.
func docsOrNone(l []impl.Doc) []impl.Doc {
	var out []impl.Doc
	for _, d := range l {
		d.Lines = linesOrNone(d.Lines)
		out = append(out, d)
	}
	return out
}

// ledgerBytes lays Docs as chapter 10 says, whether they are right or not.
func ledgerBytes(l []impl.Doc) string {
	out := nums(int64(len(l)))
	for _, d := range l {
		out += textBytes(d.Account) + nums(d.Month, d.Seq, int64(len(d.Lines)))
		for _, line := range d.Lines {
			out += textBytes(line.Meter) + nums(line.Micro)
		}
	}
	return out
}

// linesByMeter tells sums by their meters: rising, none of 0.
func linesByMeter(sums map[string]int64) []impl.Line {
	var out []impl.Line
	for meter, sum := range sums {
		if sum != 0 {
			out = append(out, impl.Line{Meter: meter, Micro: sum})
		}
	}
	slices.SortFunc(out, func(a impl.Line, b impl.Line) int { return strings.Compare(a.Meter, b.Meter) })
	return out
}

// wantNet is the net of a right ledger.
func wantNet(l []impl.Doc, account string, month int64) []impl.Line {
	sums := map[string]int64{}
	for _, d := range l {
		for _, line := range d.Lines {
			if d.Account == account && d.Month == month {
				sums[line.Meter] += line.Micro
			}
		}
	}
	return linesByMeter(sums)
}

// wantLess is what right lines have more than others, and whether one of them runs beyond Most.
func wantLess(a []impl.Line, b []impl.Line) ([]impl.Line, bool) {
	sums := map[string]int64{}
	for _, line := range a {
		sums[line.Meter] += line.Micro
	}
	for _, line := range b {
		sums[line.Meter] -= line.Micro
	}
	out := linesByMeter(sums)
	return out, slices.ContainsFunc(out, func(line impl.Line) bool { return !inside(line.Micro, -most, most) })
}

// countOf tells how many Docs are of an account and month.
func countOf(l []impl.Doc, account string, month int64) int64 {
	count := int64(0)
	for _, d := range l {
		if d.Account == account && d.Month == month {
			count++
		}
	}
	return count
}

// wantIssue tells what is issued to a right ledger, of a right account, month and bill.
func wantIssue(l []impl.Doc, account string, month int64, bill []impl.Line) impl.LedgerOut {
	lines, over := wantLess(bill, wantNet(l, account, month))
	count := countOf(l, account, month)
	switch {
	case over:
		return impl.LedgerOut{Code: impl.ErrOver}
	case len(lines) == 0 && count > 0:
		return impl.LedgerOut{Code: impl.ErrThere}
	case len(l) == impl.MaxDocs:
		return impl.LedgerOut{Code: impl.ErrFull}
	}
	d := impl.Doc{Account: account, Month: month, Seq: count, Lines: lines}
	return impl.LedgerOut{Docs: append(keptDocs(l), d), Doc: d}
}

// issue asks Issue, and whether what was handed in is left as it was.
func issue(t *testing.T, what string, l []impl.Doc, account string, month int64, bill []impl.Line) impl.LedgerOut {
	t.Helper()
	kept, keptBill := keptDocs(l), slices.Clone(bill)
	got := impl.Issue(l, account, month, bill)
	is(t, what+": the ledger is left as it was", l, kept)
	is(t, what+": the bill is left as it was", bill, keptBill)
	got.Docs = docsOrNone(got.Docs)
	got.Doc.Lines = linesOrNone(got.Doc.Lines)
	return got
}

// checkIssue asks Issue of what is right, and promise 16 of what it tells.
func checkIssue(t *testing.T, what string, l []impl.Doc, account string, month int64, bill []impl.Line) impl.LedgerOut {
	t.Helper()
	got, want := issue(t, what, l, account, month, bill), wantIssue(l, account, month, bill)
	want.Docs = docsOrNone(want.Docs)
	is(t, what, got, want)
	if got.Code == impl.OK {
		checkIssued(t, what, l, got, bill)
	}
	return got
}

// checkIssued is promise 16 of what was issued behind a right ledger. A Doc of more lines than a right one has is issued, too, but what it ends is no right ledger, which has no net.
func checkIssued(t *testing.T, what string, l []impl.Doc, got impl.LedgerOut, bill []impl.Line) {
	t.Helper()
	account, month := got.Doc.Account, got.Doc.Month
	ahead := impl.NetOf(l, account, month)
	is(t, what+": none ahead is another one", docsOrNone(got.Docs[:len(l)]), docsOrNone(l))
	is(t, what+": one more", len(got.Docs), len(l)+1)
	is(t, what+": it is the last one", got.Docs[len(l)], got.Doc)
	together := map[string]int64{}
	for _, line := range slices.Concat(ahead, got.Doc.Lines) {
		together[line.Meter] += line.Micro
	}
	is(t, what+": what was and what is new together are the bill", linesByMeter(together), linesOrNone(bill))
	right := len(got.Doc.Lines) <= impl.MaxMeters
	is(t, what+": whether the ledger is right", impl.LedgerRight(got.Docs), right)
	if !right {
		return
	}
	is(t, what+": the net is the bill", linesOrNone(impl.NetOf(got.Docs, account, month)), linesOrNone(bill))
	is(t, what+": again nothing is new", issue(t, what, got.Docs, account, month, bill), impl.LedgerOut{Code: impl.ErrThere})
	for _, d := range l {
		if d.Account != account || d.Month != month {
			is(t, what+": the net of others", linesOrNone(impl.NetOf(got.Docs, d.Account, d.Month)), linesOrNone(impl.NetOf(l, d.Account, d.Month)))
		}
	}
}

// checkIssueCode asks Issue of what it refuses: nothing may stand beside the code.
func checkIssueCode(t *testing.T, what string, l []impl.Doc, account string, month int64, bill []impl.Line, code int64) {
	t.Helper()
	is(t, what, issue(t, what, l, account, month, bill), impl.LedgerOut{Code: code})
}

// checkRightLedger asks all calls that take a ledger, of one that is right: promises 16 and 17 among them.
func checkRightLedger(t *testing.T, what string, l []impl.Doc) {
	t.Helper()
	kept := keptDocs(l)
	is(t, what+" is right", impl.LedgerRight(l), true)
	text := impl.LedgerBytes(l)
	is(t, what+": its bytes", text, ledgerBytes(kept))
	back := impl.LedgerRead(text)
	back.Docs = docsOrNone(back.Docs)
	is(t, what+" back", back, impl.LedgerOut{Docs: docsOrNone(kept)})
	is(t, what+": the bytes of what came back", impl.LedgerBytes(back.Docs), text)
	for _, d := range kept {
		net := wantNet(kept, d.Account, d.Month)
		is(t, fmt.Sprint(what, ": the net of ", d.Account, " ", d.Month), linesOrNone(impl.NetOf(l, d.Account, d.Month)), net)
		if len(net) <= impl.MaxMeters {
			checkIssueCode(t, what+": its net is billed", l, d.Account, d.Month, net, impl.ErrThere)
		}
		checkIssue(t, what+": billed anew", l, d.Account, d.Month, linesAs("cpu=7"))
	}
	checkIssue(t, what+": another account", l, "other", 0, linesAs("cpu=-7 zz=9"))
	is(t, what+" has no net of another", len(impl.NetOf(l, "other", 0)), 0)
	is(t, what+" is left as it was", l, kept)
}

// checkWrongLedger asks all calls that take a ledger, of one that is not right.
func checkWrongLedger(t *testing.T, what string, l []impl.Doc) {
	t.Helper()
	code := int64(impl.ErrForm)
	if len(l) > impl.MaxList {
		code = impl.ErrSize
	}
	kept := keptDocs(l)
	is(t, what+" is not right", impl.LedgerRight(l), false)
	is(t, what+" has no bytes", impl.LedgerBytes(l), "")
	checkNoLedger(t, what+" read", ledgerBytes(kept))
	for _, d := range kept {
		is(t, what+": no net of "+told(d.Account), len(impl.NetOf(l, d.Account, d.Month)), 0)
	}
	checkIssueCode(t, what+": a bill", l, "other", 0, linesAs("cpu=1"), code)
	checkIssueCode(t, what+": no bill", l, "ann", 600, nil, code)
	is(t, what+" is left as it was", l, kept)
}

func checkLedger(t *testing.T, what string, l []impl.Doc, right bool) {
	t.Helper()
	if right {
		checkRightLedger(t, what, l)
	} else {
		checkWrongLedger(t, what, l)
	}
}

// checkNoLedger asks LedgerRead of bytes that no right ledger has: none may stand beside the code.
func checkNoLedger(t *testing.T, what string, text string) {
	t.Helper()
	code := int64(impl.ErrSyntax)
	if len(text) > impl.MaxBytes {
		code = impl.ErrSize
	}
	is(t, what, impl.LedgerRead(text), impl.LedgerOut{Code: code})
}

// checkDoc asks of a Doc alone, and, in a ledger, of it with those that its Seq needs ahead, if they can be.
func checkDoc(t *testing.T, d impl.Doc, right bool) {
	t.Helper()
	what := told(d)
	kept := keptDocs([]impl.Doc{d})[0]
	is(t, what, impl.DocRight(d), right)
	is(t, what+": its text", impl.DocText(d) != "", right)
	is(t, what+" is left as it was", d, kept)
	checkLedger(t, what+" alone", []impl.Doc{d}, right && d.Seq == 0)
	if !inside(d.Seq, 0, impl.MaxDocs-1) {
		return
	}
	row := append(rowOf(d.Account, d.Month, "zz", slices.Repeat([]int64{1}, int(d.Seq))...), d)
	checkLedger(t, what+" in its row", row, right)
	if len(row) < impl.MaxDocs {
		checkLedger(t, what+" behind another", append(ledgerAs("zoe 7 0 cpu=1"), row...), right)
	}
}

func TestLedgerWords(t *testing.T) {
	is(t, "MaxDocs", int64(impl.MaxDocs), int64(30))
}

// TestLedgerByHand writes each byte out.
func TestLedgerByHand(t *testing.T) {
	l := ledgerAs("ann 600 0 cpu=100", "bob 0 0", "ann 600 1 cpu=-30 disk=5")
	text := "\x06" + "\x06ann\xb0\x09\x00\x02\x06cpu\xc8\x01" + "\x06bob\x00\x00\x00" + "\x06ann\xb0\x09\x02\x04\x06cpu\x3b\x08disk\x0a"
	is(t, "its bytes", impl.LedgerBytes(l), text)
	is(t, "back", impl.LedgerRead(text), impl.LedgerOut{Docs: l})
	is(t, "right", impl.LedgerRight(l), true)
	is(t, "the net of ann", impl.NetOf(l, "ann", 600), linesAs("cpu=70 disk=5"))
	is(t, "the net of bob", len(impl.NetOf(l, "bob", 0)), 0)
	is(t, "texts", []string{impl.DocText(l[0]), impl.DocText(l[1]), impl.DocText(l[2])}, []string{"ann 2020-01#0 cpu=100", "bob 1970-01#0", "ann 2020-01#1 cpu=-30 disk=5"})
	got := impl.Issue(l, "ann", 600, linesAs("cpu=70 net=8"))
	d := docAs("ann 600 2 disk=-5 net=8")
	is(t, "issued", got, impl.LedgerOut{Docs: append(keptDocs(l), d), Doc: d})
	is(t, "nothing is new", impl.Issue(l, "ann", 600, linesAs("cpu=70 disk=5")), impl.LedgerOut{Code: impl.ErrThere})
	is(t, "nothing is new, and no bill", impl.Issue(l, "bob", 0, nil), impl.LedgerOut{Code: impl.ErrThere})
	is(t, "the zero Doc", impl.DocRight(impl.Doc{}), false)
}

func TestLedgerOfNone(t *testing.T) {
	checkRightLedger(t, "none", nil)
	checkRightLedger(t, "an empty list", []impl.Doc{})
	is(t, "bytes of none", impl.LedgerBytes(nil), "\x00")
	is(t, "none back", impl.LedgerRead("\x00"), impl.LedgerOut{})
	is(t, "no net of none", len(impl.NetOf(nil, "ann", 0)), 0)
	checkWrongLedger(t, "the zero Doc", []impl.Doc{{}})
}

func TestDocAccounts(t *testing.T) {
	for _, account := range wrongNames() {
		d := someDoc()
		d.Account = account
		checkDoc(t, d, false)
		d.Seq = 1
		checkDoc(t, d, false)
		d.Seq, d.Lines = 0, nil
		checkDoc(t, d, false)
	}
	for _, account := range []string{"a", "z", "z9_z", "a0", "a_", longText(20)} {
		d := someDoc()
		d.Account = account
		checkDoc(t, d, true)
	}
}

func TestDocMonths(t *testing.T) {
	for _, month := range append(farNumbers(), 0, 1, 12, 2759, 2760, 2761, 1<<32, 1<<32+600) {
		d := someDoc()
		d.Month = month
		checkDoc(t, d, inside(month, 0, 2760))
		d.Lines = nil
		checkDoc(t, d, inside(month, 0, 2760))
	}
}

func TestDocSeqs(t *testing.T) {
	for _, seq := range append(farNumbers(), 0, 1, 2, 28, 29, 30, 999999, impl.MaxTime, 1000001, 1<<32) {
		d := someDoc()
		d.Seq = seq
		checkDoc(t, d, inside(seq, 0, 1000000))
		d.Lines = nil
		checkDoc(t, d, seq == 0)
		d.Lines = []impl.Line{}
		checkDoc(t, d, seq == 0)
	}
}

// wrongLineLists are not right, each for one reason.
func wrongLineLists() [][]impl.Line {
	out := [][]impl.Line{
		{{}}, microLines(0), microLines(5, 0), microLines(0, 5), microLines(most + 1), microLines(5, -most-1), microLines(math.MinInt64), microLines(math.MaxInt64),
		meterLines("b", "a"), meterLines("a", "a"), meterLines("a", "c", "b"), meterLines("aa", "a"), someLines(7), someLines(impl.MaxList), someLines(impl.MaxList + 1),
	}
	for _, meter := range wrongNames() {
		out = append(out, meterLines(meter))
	}
	return out
}

func TestDocLines(t *testing.T) {
	for _, lines := range wrongLineLists() {
		for _, seq := range []int64{0, 1} {
			d := someDoc()
			d.Seq, d.Lines = seq, lines
			checkDoc(t, d, false)
		}
	}
	for count := range impl.MaxMeters + 3 {
		d := someDoc()
		d.Lines = someLines(count)
		checkDoc(t, d, count <= 6)
		d.Seq = 2
		checkDoc(t, d, count >= 1 && count <= 6)
	}
	for _, micro := range edgeNumbers() {
		d := someDoc()
		d.Lines = microLines(3, micro, -3)
		checkDoc(t, d, micro != 0 && inside(micro, -most, most))
	}
}

func TestLedgerSizes(t *testing.T) {
	for _, count := range []int{0, 1, 2, 5, 6, 7, 12, 29, impl.MaxDocs, impl.MaxDocs + 1, 32, impl.MaxList - 1, impl.MaxList, impl.MaxList + 1, 1000} {
		checkLedger(t, fmt.Sprint(count, " docs"), someDocs(count), count <= 30)
		checkLedger(t, fmt.Sprint(count, " docs of one row"), rowOf("ann", 1, "cpu", slices.Repeat([]int64{3}, count)...), count <= 30)
		var apart []impl.Doc
		for i := range count {
			apart = append(apart, impl.Doc{Account: fmt.Sprintf("a%d", i), Month: int64(i)})
		}
		checkLedger(t, fmt.Sprint(count, " docs of rows of their own"), apart, count <= 30)
	}
}

// TestLedgerOfOneWrongDoc lays a Doc that is not right at each place of a ledger.
func TestLedgerOfOneWrongDoc(t *testing.T) {
	turns := []func(d *impl.Doc){
		func(d *impl.Doc) { d.Account = "" },
		func(d *impl.Doc) { d.Month = -1 },
		func(d *impl.Doc) { d.Month = 2761 },
		func(d *impl.Doc) { d.Lines = microLines(0) },
		func(d *impl.Doc) { d.Lines = someLines(7) },
		func(d *impl.Doc) { d.Lines = meterLines("b", "a") },
	}
	for place := range impl.MaxDocs {
		for i, turn := range turns {
			l := someDocs(impl.MaxDocs)
			turn(&l[place])
			checkWrongLedger(t, fmt.Sprint("turned by ", i, " at ", place), l)
		}
		l := someDocs(impl.MaxDocs)
		l[place].Lines = nil
		checkLedger(t, fmt.Sprint("no lines at ", place), l, place < 6)
	}
}

func TestLedgerSeqs(t *testing.T) {
	right := [][]int64{{0}, {0, 1}, {0, 1, 2}, {0, 1, 2, 3, 4, 5, 6, 7, 8, 9, 10, 11}}
	wrong := [][]int64{{1}, {2}, {impl.MaxTime}, {0, 0}, {0, 2}, {1, 0}, {1, 2}, {0, 1, 1}, {0, 1, 3}, {0, 2, 1}, {1, 0, 2}, {2, 1, 0}, {0, 0, 1}, {0, 1, 0}, {0, 1, 2, 2}, {0, 1, 2, impl.MaxTime}, {0, -1}, {0, math.MaxInt64}, {0, 1 << 32}}
	between := ledgerAs("ann 601 0", "anna 600 0 cpu=5", "bob 600 0", "an 600 0 cpu=1", "ann 599 0 cpu=2")
	for i, seqs := range slices.Concat(right, wrong) {
		row := rowOf("ann", 600, "cpu", slices.Repeat([]int64{4}, len(seqs))...)
		var mixed []impl.Doc
		for k := range row {
			row[k].Seq = seqs[k]
			mixed = append(mixed, row[k])
			if k < len(between) {
				mixed = append(mixed, between[k])
			}
		}
		checkLedger(t, fmt.Sprint("seqs ", seqs), row, i < len(right))
		checkLedger(t, fmt.Sprint("seqs among others ", seqs), mixed, i < len(right))
		checkLedger(t, fmt.Sprint("seqs behind others ", seqs), append(keptDocs(between), row...), i < len(right))
	}
}

// TestLedgerRowsApart lays rows one within the other: each has its own Seqs.
func TestLedgerRowsApart(t *testing.T) {
	checkRightLedger(t, "in turns", ledgerAs("ann 1 0 a=1", "bob 1 0 a=1", "ann 2 0 a=1", "ann 1 1 a=1", "ann 2 1 a=1", "bob 1 1 a=1", "ann 1 2 a=1"))
	checkRightLedger(t, "the greater first", ledgerAs("zoe 9 0 a=1", "zoe 9 1 a=1", "ann 1 0 a=1"))
	checkRightLedger(t, "names that begin each other", ledgerAs("a 11 0 a=1", "a1 1 0 a=1", "a 1 0 a=1", "a1 1 1 a=1"))
	checkWrongLedger(t, "counted on from another account", ledgerAs("ann 1 0 a=1", "bob 1 1 a=1"))
	checkWrongLedger(t, "counted on from another month", ledgerAs("ann 1 0 a=1", "ann 2 1 a=1"))
	checkWrongLedger(t, "one row is right, the other one is not", ledgerAs("ann 1 0 a=1", "bob 1 0 a=1", "ann 1 1 a=1", "bob 1 2 a=1"))
	l := someDocs(impl.MaxDocs)
	for place := 6; place < impl.MaxDocs; place++ {
		turned := keptDocs(l)
		turned[place], turned[place-6] = turned[place-6], turned[place]
		checkWrongLedger(t, fmt.Sprint("out of order at ", place), turned)
		turned = slices.Delete(keptDocs(l), place-6, place-5)
		checkWrongLedger(t, fmt.Sprint("without the one at ", place-6), turned)
	}
}

// TestLedgerNets asks for rows that come to just Most, and beyond: all of a row together counts, not its beginning.
func TestLedgerNets(t *testing.T) {
	half := most / 2
	right := [][]int64{{most}, {most - 1, 1}, {half, half}, {most, -most, most}, {most, -1, 1}, {1, most - 1, -most, -most, 1}, slices.Repeat([]int64{most / 30}, 30)}
	back := [][]int64{{most, 1, -1}, {most, most, -most}, {1, most, -1}, {1, most, -5}, {most, 1, -most}, {half, half, 1, -1}, {most, most, -most, -most}, {most, most, most, -most, -most, -most, -most}}
	wrong := [][]int64{{most, 1}, {most, most}, {1, most}, {half, half, 1}, {most, -1, 2}, {most, 2, -1}, {most, -most, most, 1}, {most, most, -most, 1}, slices.Repeat([]int64{most/30 + 1}, 30), slices.Repeat([]int64{most}, 30)}
	for _, sign := range []int64{1, -1} {
		for i, micros := range slices.Concat(right, back, wrong) {
			signed := slices.Clone(micros)
			for k := range signed {
				signed[k] *= sign
			}
			checkLedger(t, fmt.Sprint("nets of ", signed), rowOf("ann", 600, "cpu", signed...), i < len(right)+len(back))
		}
	}
	full := slices.Repeat([]int64{most, -most}, 15)
	checkRightLedger(t, "up and down", rowOf("ann", 600, "cpu", full...))
	slices.Sort(full)
	checkRightLedger(t, "down, and then up", rowOf("ann", 600, "cpu", full...))
	slices.Reverse(full)
	checkRightLedger(t, "up, and then down", rowOf("ann", 600, "cpu", full...))
	full[29] = 1
	checkWrongLedger(t, "up, and not all down", rowOf("ann", 600, "cpu", full...))
}

// TestLedgerBroughtBack asks all calls of a ledger that runs beyond Most at first, by hand; what is between in other rows or meters changes nothing.
func TestLedgerBroughtBack(t *testing.T) {
	for _, sign := range []int64{1, -1} {
		l := rowOf("ann", 600, "cpu", sign*most, sign, -sign)
		net := []impl.Line{{Meter: "cpu", Micro: sign * most}}
		is(t, "right", impl.LedgerRight(l), true)
		is(t, "its net", impl.NetOf(l, "ann", 600), net)
		checkIssueCode(t, "its net is billed", l, "ann", 600, net, impl.ErrThere)
		less := impl.Doc{Account: "ann", Month: 600, Seq: 3, Lines: []impl.Line{{Meter: "cpu", Micro: -sign * most}}}
		is(t, "no bill", checkIssue(t, "no bill", l, "ann", 600, nil), impl.LedgerOut{Docs: append(keptDocs(l), less), Doc: less})
		checkIssueCode(t, "below 0", l, "ann", 600, []impl.Line{{Meter: "cpu", Micro: -sign}}, impl.ErrOver)
		is(t, "back from its bytes", impl.LedgerRead(impl.LedgerBytes(l)), impl.LedgerOut{Docs: l})
		top, one, less1 := fmt.Sprint(sign*most), fmt.Sprint(sign), fmt.Sprint(-sign)
		checkRightLedger(t, "others between", ledgerAs("ann 600 0 cpu="+top, "bob 600 0 cpu="+one, "ann 600 1 cpu="+one+" disk="+top, "ann 601 0 cpu="+top, "ann 600 2 cpu="+less1))
		checkWrongLedger(t, "brought back by another account", ledgerAs("ann 600 0 cpu="+top, "ann 600 1 cpu="+one, "bob 600 0 cpu="+less1))
		checkWrongLedger(t, "brought back in another month", ledgerAs("ann 600 0 cpu="+top, "ann 600 1 cpu="+one, "ann 601 0 cpu="+less1))
		checkWrongLedger(t, "brought back of another meter", ledgerAs("ann 600 0 cpu="+top, "ann 600 1 cpu="+one, "ann 600 2 disk="+less1))
	}
}

// TestLedgerNetsApart lays what is beyond Most into two accounts, months or meters: each has its own net.
func TestLedgerNetsApart(t *testing.T) {
	for _, sign := range []int64{1, -1} {
		top := strconv.FormatInt(sign*most, 10)
		one := strconv.FormatInt(sign, 10)
		checkRightLedger(t, "two accounts", ledgerAs("ann 600 0 cpu="+top, "bob 600 0 cpu="+top))
		checkRightLedger(t, "two months", ledgerAs("ann 600 0 cpu="+top, "ann 601 0 cpu="+top))
		checkRightLedger(t, "two meters", ledgerAs("ann 600 0 cpu="+top, "ann 600 1 disk="+top))
		checkRightLedger(t, "two meters of one", ledgerAs("ann 600 0 cpu="+top+" disk="+top))
		checkWrongLedger(t, "with another account between", ledgerAs("ann 600 0 cpu="+top, "bob 600 0 cpu="+top, "ann 600 1 cpu="+one))
		checkWrongLedger(t, "with another month between", ledgerAs("ann 600 0 cpu="+top, "ann 601 0 cpu="+top, "ann 600 1 cpu="+one))
		checkWrongLedger(t, "the second meter", ledgerAs("ann 600 0 cpu="+one+" disk="+top, "ann 600 1 cpu="+one+" disk="+one))
		checkWrongLedger(t, "the second row", ledgerAs("ann 600 0 cpu="+one, "bob 600 0 cpu="+top, "ann 600 1 cpu="+one, "bob 600 1 cpu="+one))
	}
}

func TestNetOf(t *testing.T) {
	l := ledgerAs("ann 600 0 cpu=100 disk=5", "bob 600 0 cpu=9", "ann 600 1 cpu=-30 net=2", "ann 601 0 cpu=4", "ann 600 2 a=-8 disk=-5", "bob 600 1 cpu=-9", "cy 600 0 cpu=-5", "cy 600 1 cpu=-6 zz=1", "dan 600 0")
	by := map[string]string{"ann": "a=-8 cpu=70 net=2", "bob": "", "cy": "cpu=-11 zz=1", "dan": "", "an": "", "anna": "", "eve": ""}
	for account, want := range by {
		is(t, "the net of "+account, linesOrNone(impl.NetOf(l, account, 600)), linesAs(want))
	}
	is(t, "of another month", impl.NetOf(l, "ann", 601), linesAs("cpu=4"))
	for _, month := range append(farNumbers(), 0, 599, 602, 2760, 2761) {
		is(t, fmt.Sprint("of the month ", month), len(impl.NetOf(l, "ann", month)), 0)
	}
	for _, account := range append(wrongNames(), longText(impl.MaxBytes), longText(impl.MaxBytes+1)) {
		is(t, "of "+told(account), len(impl.NetOf(l, account, 600)), 0)
	}
	checkRightLedger(t, "all of it", l)
	is(t, "at the limits", impl.NetOf(rowOf("ann", 600, "cpu", most, -most, -most), "ann", 600), []impl.Line{{Meter: "cpu", Micro: -most}})
	wide := ledgerAs("ann 600 0 a=1 c=1 e=1 g=1 i=1 k=1", "ann 600 1 b=2 c=2 d=2 f=2 h=2 j=2", "ann 600 2 a=-1 l=3")
	is(t, "of more meters than a document has", impl.NetOf(wide, "ann", 600), linesAs("b=2 c=3 d=2 e=1 f=2 g=1 h=2 i=1 j=2 k=1 l=3"))
}

// TestNetOfWrongLedgers asks for an account whose own Docs are right: the ledger as a whole is not.
func TestNetOfWrongLedgers(t *testing.T) {
	own := "ann 600 0 cpu=100"
	is(t, "right", impl.NetOf(ledgerAs(own, "bob 600 0"), "ann", 600), linesAs("cpu=100"))
	wrong := [][]impl.Doc{
		ledgerAs(own, "bob 600 1 cpu=1"), ledgerAs("bob 600 0 cpu=0", own), ledgerAs(own, "bob 2761 0"), append(someDocs(30), docAs(own)),
		append(someDocs(impl.MaxList-1), docAs(own)), append(someDocs(impl.MaxList), docAs(own)), append(ledgerAs(own), rowOf("bob", 0, "cpu", most, 1)...),
	}
	for i, l := range wrong {
		is(t, fmt.Sprint("not right ", i), len(impl.NetOf(l, "ann", 600)), 0)
		checkWrongLedger(t, fmt.Sprint("not right ", i), l)
	}
}

// checkLess asks Less of right lines.
func checkLess(t *testing.T, what string, a []impl.Line, b []impl.Line) {
	t.Helper()
	keptA, keptB := slices.Clone(a), slices.Clone(b)
	want, over := wantLess(a, b)
	if over {
		want = nil
	}
	is(t, what, linesOrNone(impl.Less(a, b)), want)
	is(t, what+": the one left as it was", a, keptA)
	is(t, what+": the other left as it was", b, keptB)
}

func TestLessByHand(t *testing.T) {
	by := map[[2]string]string{
		{"", ""}: "", {"a=5", ""}: "a=5", {"", "a=5"}: "a=-5", {"", "a=-5"}: "a=5", {"a=5", "a=5"}: "", {"a=-5", "a=-5"}: "",
		{"a=5", "a=3"}: "a=2", {"a=3", "a=5"}: "a=-2", {"a=5", "a=-3"}: "a=8", {"a=-5", "a=3"}: "a=-8", {"a=5", "b=3"}: "a=5 b=-3", {"b=5", "a=3"}: "a=-3 b=5",
		{"a=1 c=2", "b=3 d=4"}: "a=1 b=-3 c=2 d=-4", {"a=1 b=2 c=3", "b=2"}: "a=1 c=3", {"b=2", "a=1 b=2 c=3"}: "a=-1 c=-3", {"a=1 b=2", "a=2 b=1"}: "a=-1 b=1",
		{"a=1 b=2 c=3 d=4 e=5 f=6", "g=1 h=2 i=3 j=4 k=5 l=6"}: "a=1 b=2 c=3 d=4 e=5 f=6 g=-1 h=-2 i=-3 j=-4 k=-5 l=-6",
		{"a0=1 aa=1", "a=1 a_=1"}:                              "a=-1 a0=1 a_=-1 aa=1",
	}
	for given, want := range by {
		a, b := linesAs(given[0]), linesAs(given[1])
		is(t, fmt.Sprint(given), linesOrNone(impl.Less(a, b)), linesAs(want))
		checkLess(t, fmt.Sprint(given), a, b)
	}
}

func TestLessRunsOver(t *testing.T) {
	for _, a := range []int64{-most, -most + 1, -1, 1, most - 1, most} {
		for _, b := range []int64{-most, -most + 1, -1, 1, most - 1, most} {
			checkLess(t, fmt.Sprint(a, " less ", b), microLines(a), microLines(b))
			checkLess(t, fmt.Sprint("first of three ", a, " less ", b), microLines(a, 5, 6), microLines(b, 3, 6))
			checkLess(t, fmt.Sprint("second of three ", a, " less ", b), microLines(5, a, 6), microLines(3, b, 6))
			checkLess(t, fmt.Sprint("last of three ", a, " less ", b), microLines(5, 6, a), microLines(3, 6, b))
		}
	}
	is(t, "just Most", impl.Less(microLines(most-1), microLines(-1)), microLines(most))
	is(t, "just -Most", impl.Less(microLines(-most+1), microLines(1)), microLines(-most))
	is(t, "beyond Most, the other one not", len(impl.Less(linesAs("a=5 b=1000000000000000"), linesAs("a=3 b=-1"))), 0)
	is(t, "beyond -Most, the other one not", len(impl.Less(linesAs("a=-1000000000000000 b=5"), linesAs("a=1 b=3"))), 0)
	is(t, "b alone at -Most", impl.Less(nil, microLines(-most)), microLines(most))
}

func TestLessOfWrongLines(t *testing.T) {
	for _, wrong := range wrongLineLists() {
		kept := slices.Clone(wrong)
		for _, right := range [][]impl.Line{nil, {}, linesAs("a=5"), someLines(impl.MaxMeters)} {
			is(t, "a not right "+told(wrong), len(impl.Less(wrong, right)), 0)
			is(t, "b not right "+told(wrong), len(impl.Less(right, wrong)), 0)
		}
		is(t, "both not right "+told(wrong), len(impl.Less(wrong, wrong)), 0)
		is(t, "both not right, unlike "+told(wrong), len(impl.Less(wrong, []impl.Line{{Micro: 5}})), 0)
		is(t, "left as they were", wrong, kept)
	}
}

func TestLessOfDrawnLines(t *testing.T) {
	draws := sameDraws()
	for i := range 1500 {
		a, b := anyLines(draws), anyLines(draws)
		if i%2 == 0 {
			a, b = anyBill(draws, 4), anyBill(draws, 4)
		}
		checkLess(t, fmt.Sprint("lines ", i), a, b)
		checkLess(t, fmt.Sprint("alike ", i), a, a)
		checkLess(t, fmt.Sprint("less none ", i), a, nil)
		checkLess(t, fmt.Sprint("none less ", i), nil, a)
	}
}

// anyBill draws right lines of so many meters at most, which other bills have, too.
func anyBill(draws *rand.Rand, meters int) []impl.Line {
	var out []impl.Line
	for _, meter := range []string{"a", "b", "cpu", "disk", "e", "f", "g", "h"}[:meters] {
		micro := 1 + draws.Int63n([]int64{2, 1000, most}[draws.Intn(3)])
		if draws.Intn(3) == 0 {
			micro = -micro
		}
		if draws.Intn(3) > 0 && len(out) < impl.MaxMeters {
			out = append(out, impl.Line{Meter: meter, Micro: micro})
		}
	}
	return out
}

func TestIssueForm(t *testing.T) {
	l, bill := ledgerAs("ann 600 0 cpu=100"), linesAs("cpu=70")
	is(t, "as it should be", checkIssue(t, "as it should be", l, "ann", 600, bill).Code, int64(impl.OK))
	for _, account := range append(wrongNames(), longText(impl.MaxBytes)) {
		if len(account) <= impl.MaxBytes {
			checkIssueCode(t, "the account "+told(account), l, account, 600, bill, impl.ErrForm)
			checkIssueCode(t, "no bill, and the account "+told(account), nil, account, 600, nil, impl.ErrForm)
		}
	}
	for _, month := range append(farNumbers(), 2761, 2762, 1<<32) {
		checkIssueCode(t, fmt.Sprint("the month ", month), l, "ann", month, bill, impl.ErrForm)
		checkIssueCode(t, fmt.Sprint("no bill, and the month ", month), nil, "ann", month, nil, impl.ErrForm)
	}
	for _, month := range []int64{0, 1, 2759, 2760} {
		is(t, "a month", checkIssue(t, fmt.Sprint("the month ", month), l, "ann", month, bill).Doc, impl.Doc{Account: "ann", Month: month, Lines: bill})
	}
	for _, wrong := range wrongLineLists() {
		if len(wrong) <= impl.MaxList {
			checkIssueCode(t, "the bill "+told(wrong), l, "ann", 600, wrong, impl.ErrForm)
			checkIssueCode(t, "none, and the bill "+told(wrong), nil, "ann", 600, wrong, impl.ErrForm)
		}
	}
	for _, wrong := range [][]impl.Doc{ledgerAs("ann 600 1 cpu=1"), ledgerAs("ann 600 0 cpu=0"), ledgerAs("bob 600 0", "bob 600 0"), rowOf("bob", 1, "cpu", most, 1), rowOf("ann", 600, "cpu", most, 1, 1, -1), someDocs(31), someDocs(impl.MaxList)} {
		checkIssueCode(t, "the ledger "+told(wrong), wrong, "ann", 600, bill, impl.ErrForm)
		checkIssueCode(t, "no bill, and the ledger "+told(wrong), wrong, "ann", 600, nil, impl.ErrForm)
	}
}

func TestIssueSize(t *testing.T) {
	l, bill := ledgerAs("ann 600 0 cpu=100"), linesAs("cpu=70")
	for _, size := range []int{impl.MaxBytes + 1, impl.MaxBytes + 2, 3 * impl.MaxBytes} {
		checkIssueCode(t, fmt.Sprint("an account of ", size), l, longText(size), 600, bill, impl.ErrSize)
		checkIssueCode(t, fmt.Sprint("an account of ", size, ", and all else not right"), ledgerAs("ann 0 1"), longText(size), -1, microLines(0), impl.ErrSize)
	}
	checkIssueCode(t, "an account of MaxBytes", l, longText(impl.MaxBytes), 600, bill, impl.ErrForm)
	for _, size := range []int{impl.MaxList + 1, impl.MaxList + 2, 1000} {
		checkIssueCode(t, fmt.Sprint("a ledger of ", size), someDocs(size), "ann", 600, bill, impl.ErrSize)
		checkIssueCode(t, fmt.Sprint("a bill of ", size), l, "ann", 600, someLines(size), impl.ErrSize)
		checkIssueCode(t, fmt.Sprint("a ledger of ", size, ", and all else not right"), someDocs(size), "", -1, microLines(0), impl.ErrSize)
		checkIssueCode(t, fmt.Sprint("a bill of ", size, ", and all else not right"), ledgerAs("ann 0 1"), "", -1, someLines(size), impl.ErrSize)
		checkIssueCode(t, fmt.Sprint("both of ", size), someDocs(size), "ann", 600, someLines(size), impl.ErrSize)
	}
	checkIssueCode(t, "a ledger of MaxList", someDocs(impl.MaxList), "ann", 600, bill, impl.ErrForm)
	checkIssueCode(t, "a bill of MaxList", l, "ann", 600, someLines(impl.MaxList), impl.ErrForm)
}

func TestIssueOver(t *testing.T) {
	for _, sign := range []int64{1, -1} {
		l := rowOf("ann", 600, "cpu", sign*most)
		checkIssueCode(t, "twice Most", l, "ann", 600, []impl.Line{{Meter: "cpu", Micro: -sign * most}}, impl.ErrOver)
		checkIssueCode(t, "one beyond Most", l, "ann", 600, []impl.Line{{Meter: "cpu", Micro: -sign}}, impl.ErrOver)
		checkIssueCode(t, "one beyond, the others not", l, "ann", 600, []impl.Line{{Meter: "a", Micro: 1}, {Meter: "cpu", Micro: -sign}, {Meter: "disk", Micro: 1}}, impl.ErrOver)
		is(t, "just Most", checkIssue(t, "just Most", l, "ann", 600, nil).Doc, impl.Doc{Account: "ann", Month: 600, Seq: 1, Lines: []impl.Line{{Meter: "cpu", Micro: -sign * most}}})
		is(t, "another meter", checkIssue(t, "another meter", l, "ann", 600, []impl.Line{{Meter: "a", Micro: -sign * most}}).Code, int64(impl.OK))
		is(t, "another account", checkIssue(t, "another account", l, "bob", 600, []impl.Line{{Meter: "cpu", Micro: -sign * most}}).Code, int64(impl.OK))
		is(t, "another month", checkIssue(t, "another month", l, "ann", 601, []impl.Line{{Meter: "cpu", Micro: -sign * most}}).Code, int64(impl.OK))
		l = append(l, impl.Doc{Account: "ann", Month: 600, Seq: 1, Lines: []impl.Line{{Meter: "cpu", Micro: -sign * most}}})
		is(t, "back at 0", checkIssue(t, "back at 0", l, "ann", 600, []impl.Line{{Meter: "cpu", Micro: -sign * most}}).Code, int64(impl.OK))
	}
}

func TestIssueThere(t *testing.T) {
	checkIssueCode(t, "the bill is there", ledgerAs("ann 600 0 cpu=5 disk=6"), "ann", 600, linesAs("cpu=5 disk=6"), impl.ErrThere)
	checkIssueCode(t, "the bill is there in parts", ledgerAs("ann 600 0 cpu=3", "ann 600 1 cpu=2 disk=6"), "ann", 600, linesAs("cpu=5 disk=6"), impl.ErrThere)
	checkIssueCode(t, "no bill, and a Doc of none", ledgerAs("ann 600 0"), "ann", 600, nil, impl.ErrThere)
	checkIssueCode(t, "an empty bill, and a Doc of none", ledgerAs("ann 600 0"), "ann", 600, []impl.Line{}, impl.ErrThere)
	checkIssueCode(t, "no bill, and Docs that come to nothing", ledgerAs("ann 600 0 cpu=3", "ann 600 1 cpu=-3"), "ann", 600, nil, impl.ErrThere)
	checkIssueCode(t, "in a ledger of one less than MaxDocs", rowOf("ann", 600, "cpu", slices.Repeat([]int64{2}, 29)...), "ann", 600, linesAs("cpu=58"), impl.ErrThere)
	for _, l := range [][]impl.Doc{nil, {}, ledgerAs("bob 600 0"), ledgerAs("ann 601 0", "ann 599 0 cpu=1"), ledgerAs("an 600 0", "anna 600 0 cpu=1")} {
		got := checkIssue(t, "the first Doc, of no bill", l, "ann", 600, nil)
		is(t, "the first Doc, of no bill", got, impl.LedgerOut{Docs: append(keptDocs(l), docAs("ann 600 0")), Doc: docAs("ann 600 0")})
		is(t, "the first Doc, of an empty bill", checkIssue(t, "of an empty bill", l, "ann", 600, []impl.Line{}), got)
		is(t, "the first Doc, of a bill", checkIssue(t, "of a bill", l, "ann", 600, linesAs("cpu=1 disk=-2")).Doc, docAs("ann 600 0 cpu=1 disk=-2"))
	}
}

func TestIssueFull(t *testing.T) {
	full := append(rowOf("ann", 600, "cpu", slices.Repeat([]int64{2}, 20)...), rowOf("bob", 600, "cpu", slices.Repeat([]int64{-2}, 10)...)...)
	checkRightLedger(t, "a full ledger", full)
	checkIssueCode(t, "another bill", full, "ann", 600, linesAs("cpu=41"), impl.ErrFull)
	checkIssueCode(t, "no bill", full, "ann", 600, nil, impl.ErrFull)
	checkIssueCode(t, "the first one of another account", full, "cy", 600, linesAs("cpu=1"), impl.ErrFull)
	checkIssueCode(t, "the first one of another month", full, "ann", 0, nil, impl.ErrFull)
	checkIssueCode(t, "there, ahead of full", full, "ann", 600, linesAs("cpu=40"), impl.ErrThere)
	checkIssueCode(t, "there, ahead of full", full, "bob", 600, linesAs("cpu=-20"), impl.ErrThere)
	room := full[:29]
	is(t, "the last one that has room", checkIssue(t, "the last one", room, "ann", 600, linesAs("cpu=41")).Doc, docAs("ann 600 20 cpu=1"))
	is(t, "the last one of another", checkIssue(t, "the last one of another", room, "cy", 0, nil).Doc, docAs("cy 0 0"))
	full = append(rowOf("ann", 600, "cpu", most), someDocs(29)...)
	checkIssueCode(t, "over, ahead of full", full, "ann", 600, linesAs("cpu=-1"), impl.ErrOver)
	full = append(rowOf("ann", 600, "cpu", most), someDocs(30)...)
	checkIssueCode(t, "not right, ahead of over", full, "ann", 600, linesAs("cpu=-1"), impl.ErrForm)
}

// TestIssueUpToFull issues one Doc behind the other, each with its own Seq.
func TestIssueUpToFull(t *testing.T) {
	var l []impl.Doc
	for i := range int64(impl.MaxDocs) {
		account := []string{"ann", "bob"}[i%2]
		got := checkIssue(t, fmt.Sprint("the Doc ", i), l, account, 7, microLines(i+1))
		is(t, fmt.Sprint("the Seq of ", i), got.Doc.Seq, i/2)
		l = got.Docs
	}
	is(t, "the last net", impl.NetOf(l, "bob", 7), microLines(30))
	checkIssueCode(t, "one more", l, "ann", 7, microLines(1), impl.ErrFull)
	checkRightLedger(t, "all of them", l)
}

// TestIssueOfManyMeters asks for what is new of more meters than a right document has: all of it is issued, while there is room for a document.
func TestIssueOfManyMeters(t *testing.T) {
	l := ledgerAs("ann 600 0 a=1 b=2 c=3 d=4 e=5 f=6")
	is(t, "six meters", checkIssue(t, "six meters", l, "ann", 600, linesAs("a=1 g=1")).Doc, docAs("ann 600 1 b=-2 c=-3 d=-4 e=-5 f=-6 g=1"))
	is(t, "six meters, none left", checkIssue(t, "six meters, none left", l, "ann", 600, nil).Doc, docAs("ann 600 1 a=-1 b=-2 c=-3 d=-4 e=-5 f=-6"))
	is(t, "seven meters", checkIssue(t, "seven meters", l, "ann", 600, linesAs("g=1")).Doc, docAs("ann 600 1 a=-1 b=-2 c=-3 d=-4 e=-5 f=-6 g=1"))
	twelve := docAs("ann 600 1 a=-1 b=-2 c=-3 d=-4 e=-5 f=-6 g=1 h=2 i=3 j=4 k=5 l=6")
	is(t, "twelve meters", checkIssue(t, "twelve meters", l, "ann", 600, linesAs("g=1 h=2 i=3 j=4 k=5 l=6")), impl.LedgerOut{Docs: append(keptDocs(l), twelve), Doc: twelve})
	l = append(l, docAs("ann 600 1 g=7 h=8"))
	is(t, "a net of eight meters", checkIssue(t, "a net of eight meters", l, "ann", 600, linesAs("a=1 b=2 c=3 d=4 e=5 h=9")).Doc, docAs("ann 600 2 f=-6 g=-7 h=1"))
	is(t, "a net of eight meters, and no bill", checkIssue(t, "a net of eight meters, and no bill", l, "ann", 600, nil).Doc, docAs("ann 600 2 a=-1 b=-2 c=-3 d=-4 e=-5 f=-6 g=-7 h=-8"))
}

// TestIssueOfManyMetersInOrder: the codes that are named come first there, too.
func TestIssueOfManyMetersInOrder(t *testing.T) {
	l := append(ledgerAs("ann 600 0 a=1 b=2 c=3 d=4 e=5 f=1000000000000000"), someDocs(28)...)
	bill := linesAs("a=2 b=3 c=4 d=5 g=6 h=7")
	is(t, "the last one that has room", checkIssue(t, "the last one that has room", l, "ann", 600, bill).Doc, docAs("ann 600 1 a=1 b=1 c=1 d=1 e=-5 f=-1000000000000000 g=6 h=7"))
	checkIssueCode(t, "over", l, "ann", 600, linesAs("f=-1 g=6 h=7"), impl.ErrOver)
	full := append(l, docAs("zoe 9 0"))
	checkIssueCode(t, "full", full, "ann", 600, bill, impl.ErrFull)
	checkIssueCode(t, "over, ahead of full", full, "ann", 600, linesAs("f=-1 g=6 h=7"), impl.ErrOver)
	wide := impl.Issue(l, "ann", 600, bill).Docs
	checkWrongLedger(t, "what ends in a Doc of eight lines", wide)
	checkIssueCode(t, "behind a Doc of eight lines", wide, "ann", 600, bill, impl.ErrForm)
}

// TestIssuedBills is promise 16 of drawn bills, of several accounts and months in turns.
func TestIssuedBills(t *testing.T) {
	draws := sameDraws()
	codes := map[int64]int{}
	for i := range 64 {
		var l []impl.Doc
		meters := 1 + i%8
		for k := range 45 {
			account, month := []string{"ann", "bob", "a"}[draws.Intn(3)], []int64{0, 600, lastMonth}[draws.Intn(1+i%3)]
			bill := anyBill(draws, meters)
			if draws.Intn(8) == 0 {
				bill = nil
			}
			got := checkIssue(t, fmt.Sprint("bill ", k, " of ", i), l, account, month, bill)
			codes[got.Code]++
			if got.Code == impl.OK && len(got.Doc.Lines) <= impl.MaxMeters {
				l = got.Docs
			}
		}
		checkRightLedger(t, fmt.Sprint("ledger ", i), l)
	}
	many := []bool{codes[impl.OK] > 1000, codes[impl.ErrThere] > 20, codes[impl.ErrOver] > 20, codes[impl.ErrFull] > 200, len(codes) == 4}
	is(t, "bills, and each of the codes", many, []bool{true, true, true, true, true})
}

// TestIssuedAgain goes from one bill to another one and back: what is less, and what it is less by, are together what it was.
func TestIssuedAgain(t *testing.T) {
	draws := sameDraws()
	for i := range 500 {
		one, two := anyBill(draws, 6), anyBill(draws, 6)
		first := checkIssue(t, fmt.Sprint("the one bill ", i), nil, "ann", 600, one)
		is(t, "the first Doc has the bill", first.Doc, impl.Doc{Account: "ann", Month: 600, Lines: one})
		second := checkIssue(t, fmt.Sprint("the other bill ", i), first.Docs, "ann", 600, two)
		if second.Code != impl.OK {
			continue
		}
		is(t, "what is new", second.Doc, impl.Doc{Account: "ann", Month: 600, Seq: 1, Lines: impl.Less(two, one)})
		is(t, "less what is new it is what it was", linesOrNone(impl.Less(two, second.Doc.Lines)), linesOrNone(one))
		third := checkIssue(t, fmt.Sprint("the one bill again ", i), second.Docs, "ann", 600, one)
		is(t, "what is new is taken back", third.Doc.Lines, linesOrNone(impl.Less(nil, second.Doc.Lines)))
	}
}

func TestDocText(t *testing.T) {
	by := map[string]string{
		"ann 600 0": "ann 2020-01#0", "ann 600 0 cpu=100": "ann 2020-01#0 cpu=100", "ann 600 1 cpu=-30 disk=5": "ann 2020-01#1 cpu=-30 disk=5",
		"a 0 9 a=1": "a 1970-01#9 a=1", "a 11 10 a=-1": "a 1970-12#10 a=-1", "z_9 2760 99 a=1 b=-2 c=3 d=-4 e=5 f=-6": "z_9 2200-01#99 a=1 b=-2 c=3 d=-4 e=5 f=-6",
		"ann 2759 1000000 cpu=1000000000000000 disk=-1000000000000000": "ann 2199-12#1000000 cpu=1000000000000000 disk=-1000000000000000",
		"ann 1 999999 cpu=1": "ann 1970-02#999999 cpu=1", "ann 1 100 cpu=10": "ann 1970-02#100 cpu=10",
		"xxxxxxxxxxxxxxxxxxxx 8 0 yyyyyyyyyyyyyyyyyyyy=7": "xxxxxxxxxxxxxxxxxxxx 1970-09#0 yyyyyyyyyyyyyyyyyyyy=7",
	}
	for given, want := range by {
		d := docAs(given)
		kept := keptDocs([]impl.Doc{d})[0]
		is(t, given, impl.DocText(d), want)
		is(t, given+" is left as it was", d, kept)
	}
	for _, wrong := range []string{"ann 600 1", "ann 600 -1 a=1", "ann 600 1000001 a=1", "ann -1 0", "ann 2761 0", "Ann 600 0", "ann 600 0 b=1 a=1", "ann 600 0 a=0", "ann 600 0 a=1 b=1000000000000001", "ann 600 0 a=1 b=1 c=1 d=1 e=1 f=1 g=1"} {
		is(t, "not right: "+wrong, impl.DocText(docAs(wrong)), "")
	}
	is(t, "the zero Doc", impl.DocText(impl.Doc{}), "")
}

// TestLedgersComeBack is promise 17; the greatest ledger that can be has fewer bytes than MaxBytes, so that each right one has its bytes.
func TestLedgersComeBack(t *testing.T) {
	checkRightLedger(t, "the greatest", greatDocs())
	is(t, "its bytes", len(impl.LedgerBytes(greatDocs())), 5971)
	checkRightLedger(t, "MaxDocs", someDocs(impl.MaxDocs))
	checkRightLedger(t, "no lines", ledgerAs("ann 600 0", "bob 600 0", "ann 601 0"))
	draws := sameDraws()
	for i := range 150 {
		var l []impl.Doc
		for range draws.Intn(impl.MaxDocs + 1) {
			names := anyNames(draws, 1)
			got := impl.Issue(l, names[0][:1], draws.Int63n(3)*1380, anyLines(draws))
			if got.Code == impl.OK && len(got.Doc.Lines) <= impl.MaxMeters {
				l = got.Docs
			}
		}
		checkRightLedger(t, fmt.Sprint("ledger ", i), l)
	}
}

func TestLedgerReadEndsTooEarly(t *testing.T) {
	for _, l := range [][]impl.Doc{nil, ledgerAs("ann 600 0"), ledgerAs("ann 600 0 cpu=1"), someDocs(3), someDocs(impl.MaxDocs), greatDocs()} {
		text := impl.LedgerBytes(l)
		for end := range len(text) {
			checkNoLedger(t, fmt.Sprint("the first ", end, " bytes"), text[:end])
		}
		for b := range 256 {
			checkNoLedger(t, "one byte more behind", text+string([]byte{byte(b)}))
		}
		checkNoLedger(t, "twice", text+text)
	}
	checkNoLedger(t, "the empty text", "")
	checkNoLedger(t, "a letter", "x")
}

// ledgerParts are the bytes of a ledger of two Docs, number by number and text by text.
func ledgerParts() []string {
	return []string{"\x04", "\x06", "ann", "\xb0\x09", "\x00", "\x02", "\x06", "cpu", "\xc8\x01", "\x06", "ann", "\xb0\x09", "\x02", "\x02", "\x06", "cpu", "\x3b"}
}

// withLedgerPart is the text of ledgerParts with one of them turned.
func withLedgerPart(place int, part string) string {
	parts := ledgerParts()
	parts[place] = part
	return strings.Join(parts, "")
}

func TestLedgerReadParts(t *testing.T) {
	want := ledgerAs("ann 600 0 cpu=100", "ann 600 1 cpu=-30")
	is(t, "as it should be", impl.LedgerRead(strings.Join(ledgerParts(), "")), impl.LedgerOut{Docs: want})
	want[1].Lines[0].Micro = -most
	is(t, "another number", impl.LedgerRead(withLedgerPart(16, impl.PutNum(-most))), impl.LedgerOut{Docs: want})
	for _, place := range []int{0, 1, 3, 4, 5, 6, 9, 11, 12, 13, 14} {
		for _, n := range append(farNumbers(), -2, 7, 1<<32, 1<<32+1, 1<<32+2, 1<<32+3) {
			checkNoLedger(t, fmt.Sprint(n, " at ", place), withLedgerPart(place, impl.PutNum(n)))
		}
	}
	for _, place := range []int{8, 16} {
		for _, n := range []int64{math.MinInt64, -most - 1, 0, most + 1, math.MaxInt64} {
			checkNoLedger(t, fmt.Sprint("a Micro of ", n, " at ", place), withLedgerPart(place, impl.PutNum(n)))
		}
	}
	checkNoLedger(t, "another account, of the Seq 1", withLedgerPart(10, "bob"))
	checkNoLedger(t, "no name", withLedgerPart(2, "Ann"))
	checkNoLedger(t, "no meter", withLedgerPart(7, "c-u"))
	checkNoLedger(t, "beyond Most together", withLedgerPart(8, impl.PutNum(-most)))
}

// TestLedgerReadCounts lays counts that are too great, with as many behind, and with none.
func TestLedgerReadCounts(t *testing.T) {
	for count := range impl.MaxDocs + 4 {
		l := someDocs(count)
		is(t, fmt.Sprint(count, " docs"), impl.LedgerRead(ledgerBytes(l)).Code == impl.OK, count <= 30)
		d := someDoc()
		d.Lines = someLines(count)
		is(t, fmt.Sprint(count, " lines"), impl.LedgerRead(ledgerBytes([]impl.Doc{d})).Code == impl.OK, count <= 6)
	}
	ahead, line := nums(1)+textBytes("ann")+nums(600, 0), textBytes("cpu")+nums(5)
	is(t, "a line", impl.LedgerRead(ahead+nums(1)+line).Code, int64(impl.OK))
	is(t, "no line", impl.LedgerRead(ahead+nums(0)).Code, int64(impl.OK))
	for _, n := range append(farNumbers(), -2, 7, 31, 400, 401, 1<<31, 1<<32) {
		checkNoLedger(t, fmt.Sprint(n, " docs alone"), nums(n))
		checkNoLedger(t, fmt.Sprint(n, " docs and one"), nums(n)+textBytes("ann")+nums(600, 0, 0))
		checkNoLedger(t, fmt.Sprint(n, " lines alone"), ahead+nums(n))
		checkNoLedger(t, fmt.Sprint(n, " lines and one"), ahead+nums(n)+line)
	}
}

// TestLedgerReadNeedlessBytes writes each number of a ledger with a byte more than it needs.
func TestLedgerReadNeedlessBytes(t *testing.T) {
	for place, part := range ledgerParts() {
		if slices.Contains([]string{"ann", "cpu"}, part) {
			continue
		}
		for _, more := range []string{"\x00", "\x80\x00"} {
			longer := part[:len(part)-1] + string([]byte{part[len(part)-1] | 128}) + more
			checkNoLedger(t, fmt.Sprint("a needless byte at ", place), withLedgerPart(place, longer))
		}
	}
	checkNoLedger(t, "a needless byte in a count of none", "\x80\x00")
}

// TestLedgerReadTakesOnlyWhatLedgerBytesGives turns bytes of ledgers: what is still read must have just these bytes.
func TestLedgerReadTakesOnlyWhatLedgerBytesGives(t *testing.T) {
	for _, l := range [][]impl.Doc{nil, ledgerAs("ann 600 0"), someDocs(8), ledgerAs("ann 600 0 cpu=100", "ann 600 1 cpu=-30 disk=5")} {
		text := impl.LedgerBytes(l)
		for place := range len(text) {
			for b := range 256 {
				turned := text[:place] + string([]byte{byte(b)}) + text[place+1:]
				back := impl.LedgerRead(turned)
				if back.Code == impl.OK {
					is(t, "bytes that were read", ledgerBytes(back.Docs), turned)
					is(t, "what was read is right", impl.LedgerRight(back.Docs), true)
				} else {
					is(t, "bytes that were not read", back, impl.LedgerOut{Code: impl.ErrSyntax})
				}
			}
		}
	}
	draws := sameDraws()
	for range 3000 {
		text := "\x02" + anyText(draws, draws.Intn(12))
		if back := impl.LedgerRead(text); back.Code == impl.OK {
			is(t, "any bytes that were read", ledgerBytes(back.Docs), text)
		}
	}
}

func TestLedgerReadTooLong(t *testing.T) {
	for _, size := range []int{impl.MaxBytes - 1, impl.MaxBytes, impl.MaxBytes + 1, impl.MaxBytes + 2, 3 * impl.MaxBytes} {
		code := int64(impl.ErrSyntax)
		if size > 8000 {
			code = impl.ErrSize
		}
		is(t, fmt.Sprint(size, " bytes"), impl.LedgerRead(longText(size)), impl.LedgerOut{Code: code})
		text := impl.LedgerBytes(greatDocs())
		is(t, fmt.Sprint("a ledger, and up to ", size, " bytes"), impl.LedgerRead(text+strings.Repeat("\x00", size-len(text))), impl.LedgerOut{Code: code})
	}
}

// spoilDocs turns all that Docs hold, and what room they have behind their end.
func spoilDocs(l []impl.Doc) {
	for _, d := range l {
		spoilLines(d.Lines)
	}
	room := l[:cap(l)]
	for i := range room {
		room[i] = impl.Doc{Account: "spoiled", Month: -1, Seq: -1}
	}
}

// TestIssueSharesNothing turns what was answered, and what was handed in: neither may be seen elsewhere.
func TestIssueSharesNothing(t *testing.T) {
	for _, count := range []int{0, 1, 7, 29} {
		l, bill := someDocs(count), linesAs("cpu=5 disk=-6")
		want := wantIssue(l, "ann", 1, bill)
		first, second, third := impl.Issue(l, "ann", 1, bill), impl.Issue(l, "ann", 1, bill), impl.Issue(l, "ann", 1, bill)
		spoilDocs(first.Docs)
		is(t, "the ledger handed in", l, someDocs(count))
		is(t, "the bill handed in", bill, linesAs("cpu=5 disk=-6"))
		is(t, "the Doc beside the Docs", first.Doc, want.Doc)
		spoilLines(second.Doc.Lines)
		is(t, "the Docs beside the Doc", second.Docs, want.Docs)
		is(t, "the bill that the Doc was made of", bill, linesAs("cpu=5 disk=-6"))
		spoilDocs(l)
		spoilLines(bill)
		is(t, "issued ahead of that", third, want)
	}
}

// TestLedgerListsApart turns the lines of one Doc of an answer: no other one may share them.
func TestLedgerListsApart(t *testing.T) {
	ask := map[string]func() []impl.Doc{
		"issued": func() []impl.Doc { return impl.Issue(someDocs(14), "ann", 1, linesAs("cpu=5 disk=-6")).Docs },
		"read":   func() []impl.Doc { return impl.LedgerRead(ledgerBytes(someDocs(14))).Docs },
	}
	for name, docs := range ask {
		want := keptDocs(docs())
		for place := range want {
			got := docs()
			spoilLines(got[place].Lines)
			got[place] = want[place]
			is(t, fmt.Sprint(name, ": all but the lines at ", place), docsOrNone(got), docsOrNone(want))
		}
	}
}

func TestNetsShareNothing(t *testing.T) {
	l := ledgerAs("ann 600 0 cpu=100 disk=5", "ann 600 1 cpu=-30")
	kept := keptDocs(l)
	first, second := impl.NetOf(l, "ann", 600), impl.NetOf(l, "ann", 600)
	spoilLines(first)
	is(t, "the ledger handed in", l, kept)
	is(t, "the net beside it", second, linesAs("cpu=70 disk=5"))
	spoilDocs(l)
	is(t, "the net ahead of that", second, linesAs("cpu=70 disk=5"))
	one := impl.NetOf(ledgerAs("ann 600 0 cpu=1 disk=2"), "ann", 600)
	is(t, "of one document", one, linesAs("cpu=1 disk=2"))
	for _, b := range [][]impl.Line{nil, linesAs("b=1")} {
		a, other := linesAs("a=1 b=2"), slices.Clone(b)
		want, _ := wantLess(a, b)
		first, second := impl.Less(a, b), impl.Less(a, b)
		spoilLines(first)
		is(t, "the lines handed in", a, linesAs("a=1 b=2"))
		is(t, "the other lines handed in", b, other)
		spoilLines(a)
		spoilLines(b)
		is(t, "less ahead of that", second, want)
	}
}

// TestLedgerLeavesRoomBehind hands in lists that have room behind their end: nothing may be laid there.
func TestLedgerLeavesRoomBehind(t *testing.T) {
	room := append(someDocs(9), slices.Repeat(ledgerAs("behind 1 1 cpu=9"), 30)...)
	kept := keptDocs(room)
	lines := append(linesAs("cpu=5 disk=6"), slices.Repeat([]impl.Line{{Meter: "behind", Micro: 9}}, 20)...)
	keptLines := slices.Clone(lines)
	checkRightLedger(t, "with room behind", room[:9])
	for count := range 10 {
		checkIssue(t, "a bill with room behind", room[:count], "ann", 1, lines[:2])
		checkIssue(t, "an empty bill with room behind", room[:count], "ann", 1, lines[:0])
	}
	for count := range 3 {
		checkLess(t, "lines with room behind", lines[:count], linesAs("a=1 cpu=5"))
		checkLess(t, "other lines with room behind", linesAs("a=1 cpu=5"), lines[:count])
	}
	is(t, "the room behind Docs", room, kept)
	is(t, "the room behind lines", lines, keptLines)
}

func TestLedgerTextsAreNew(t *testing.T) {
	account, meter := strings.Repeat("a", 20), strings.Repeat("m", 20)
	l := rowOf(account, 600, meter, 5)
	bill := []impl.Line{{Meter: meter, Micro: 7}}
	got := impl.Issue(l, account, 600, bill)
	is(t, "a text of a Doc ahead", sameBytes(got.Docs[0].Account, account) || sameBytes(got.Docs[0].Lines[0].Meter, meter), false)
	is(t, "a text of the last Doc", sameBytes(got.Docs[1].Account, account) || sameBytes(got.Docs[1].Lines[0].Meter, meter), false)
	is(t, "a text of the Doc", sameBytes(got.Doc.Account, account) || sameBytes(got.Doc.Lines[0].Meter, meter), false)
	is(t, "a meter of a net", sameBytes(impl.NetOf(l, account, 600)[0].Meter, meter), false)
	is(t, "a meter that is less", sameBytes(impl.Less(bill, nil)[0].Meter, meter) || sameBytes(impl.Less(nil, bill)[0].Meter, meter), false)
	text := impl.LedgerBytes(l)
	is(t, "an account that was read", sameBytes(impl.LedgerRead(text).Docs[0].Account, text[2:]), false)
}
