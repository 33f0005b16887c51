package tests

import (
	"fmt"
	"math"
	"math/big"
	"math/rand"
	"slices"
	"strconv"
	"strings"
	"testing"

	"loop.example/g00562/impl"
)

// maxBilled is how many windows BillOf takes.
const maxBilled = 20

// someLines are right, while they are no more than may be; some are below 0.
func someLines(count int) []impl.Line {
	var out []impl.Line
	for i := range count {
		out = append(out, impl.Line{Meter: fmt.Sprintf("m%03d", i), Micro: []int64{100, -30, 7}[i%3]})
	}
	return out
}

// microLines are of these Micros.
func microLines(micros ...int64) []impl.Line {
	out := someLines(len(micros))
	for i, micro := range micros {
		out[i].Micro = micro
	}
	return out
}

// meterLines are of these Meters, right in all else.
func meterLines(meters ...string) []impl.Line {
	out := someLines(len(meters))
	for i, meter := range meters {
		out[i].Meter = meter
	}
	return out
}

// linesAs reads lines as they are written out, Meter, = and Micro, with blanks between.
func linesAs(text string) []impl.Line {
	var out []impl.Line
	for _, word := range strings.Fields(text) {
		meter, digits, _ := strings.Cut(word, "=")
		micro, err := strconv.ParseInt(digits, 10, 64)
		if err != nil {
			panic(err) // the test itself is written wrong
		}
		out = append(out, impl.Line{Meter: meter, Micro: micro})
	}
	return out
}

// linesOrNone makes none of an empty list, for both are the same.
func linesOrNone(l []impl.Line) []impl.Line {
	return append([]impl.Line(nil), l...)
}

// sumOf adds the Micros of lines, whether they are right or not.
func sumOf(lines []impl.Line) int64 {
	var sum int64
	for _, line := range lines {
		sum += line.Micro
	}
	return sum
}

// owed is what there is to pay of lines: those below 0 give nothing.
func owed(lines []impl.Line) int64 {
	var sum int64
	for _, line := range lines {
		sum += max(line.Micro, 0)
	}
	return sum
}

// wantDrawn tells, of each line, what the credit pays up to its end less what it pays up to its beginning.
func wantDrawn(lines []impl.Line, credit int64) []impl.Line {
	var out []impl.Line
	for i, line := range lines {
		paid := min(credit, owed(lines[:i+1])) - min(credit, owed(lines[:i]))
		if line.Micro != paid {
			out = append(out, impl.Line{Meter: line.Meter, Micro: line.Micro - paid})
		}
	}
	return out
}

// checkDrawn asks Drawn of right lines and a right credit.
func checkDrawn(t *testing.T, what string, lines []impl.Line, credit int64) {
	t.Helper()
	kept := slices.Clone(lines)
	got := impl.Drawn(lines, credit)
	what = fmt.Sprint(what, " drawn by ", credit)
	is(t, what, linesOrNone(got), wantDrawn(kept, credit))
	is(t, what+": what is left is right", impl.LinesRight(got), true)
	is(t, what+": the total is less by what was paid", impl.TotalOf(got), sumOf(kept)-min(credit, owed(kept)))
	is(t, what+": left as they were", lines, kept)
}

// checkNotDrawn asks Drawn of what it refuses.
func checkNotDrawn(t *testing.T, what string, lines []impl.Line, credit int64) {
	t.Helper()
	kept := slices.Clone(lines)
	is(t, fmt.Sprint(what, " drawn by ", credit), len(impl.Drawn(lines, credit)), 0)
	is(t, what+": left as they were", lines, kept)
}

// edgeCredits are those at, below and above which a line is paid, and the limits.
func edgeCredits(lines []impl.Line) []int64 {
	out := []int64{0, 1, 2, 99, most - 1, most}
	for i := range lines {
		paid := owed(lines[:i+1])
		for _, credit := range []int64{paid - 1, paid, paid + 1} {
			if inside(credit, 0, most) {
				out = append(out, credit)
			}
		}
	}
	return out
}

// checkRightLines asks all calls that take lines, of right ones.
func checkRightLines(t *testing.T, what string, lines []impl.Line) {
	t.Helper()
	kept := slices.Clone(lines)
	is(t, what+" are right", impl.LinesRight(lines), true)
	is(t, what+": their total", impl.TotalOf(lines), sumOf(kept))
	is(t, what+": left as they were", lines, kept)
	for _, credit := range edgeCredits(lines) {
		checkDrawn(t, what, lines, credit)
	}
	for _, credit := range append(farNumbers(), -2, most+1, most+2) {
		checkNotDrawn(t, what, lines, credit)
	}
}

// checkWrongLines asks all calls that take lines, of ones that are not right.
func checkWrongLines(t *testing.T, what string, lines []impl.Line) {
	t.Helper()
	kept := slices.Clone(lines)
	is(t, what+" are not right", impl.LinesRight(lines), false)
	is(t, what+": no total", impl.TotalOf(lines), int64(0))
	is(t, what+": left as they were", lines, kept)
	for _, credit := range append(farNumbers(), 0, 1, 100, most, most+1) {
		checkNotDrawn(t, what, lines, credit)
	}
}

func checkLines(t *testing.T, what string, lines []impl.Line, right bool) {
	t.Helper()
	if right {
		checkRightLines(t, what, lines)
	} else {
		checkWrongLines(t, what, lines)
	}
}

func TestLineCounts(t *testing.T) {
	for _, count := range []int{0, 1, 2, 5, impl.MaxMeters, impl.MaxMeters + 1, 8, impl.MaxList - 1, impl.MaxList, impl.MaxList + 1, 1000} {
		checkLines(t, fmt.Sprint(count, " lines"), someLines(count), count <= 6)
	}
	checkRightLines(t, "an empty list of lines", []impl.Line{})
	checkWrongLines(t, "the zero line", []impl.Line{{}})
}

func TestLineMeters(t *testing.T) {
	for _, meter := range wrongNames() {
		checkWrongLines(t, "alone "+told(meter), meterLines(meter))
		checkWrongLines(t, "ahead "+told(meter), meterLines(meter, "zz"))
		checkWrongLines(t, "behind "+told(meter), meterLines("a", meter))
	}
	for _, meter := range []string{"a", "z", "a0", "a_", "z9_z", longText(20)} {
		checkRightLines(t, "the meter "+meter, meterLines(meter))
	}
	// Each is greater than the one ahead of it, so that it is refused for what it is alone.
	for _, meter := range []string{"b-", "bA", "b\xff", "z" + longText(20), "~"} {
		checkWrongLines(t, "rising, but no name "+told(meter), meterLines("b", meter))
	}
}

func TestLinesRise(t *testing.T) {
	right := [][]string{{"a", "b"}, {"a", "aa"}, {"a0", "a_", "aa"}, {"cpu", "cpu1", "cpu10", "cpu2"}, sevenNames()[:6]}
	for _, meters := range right {
		checkRightLines(t, fmt.Sprint("lines ", meters), meterLines(meters...))
	}
	wrong := [][]string{{"a", "a"}, {"b", "a"}, {"aa", "a"}, {"a_", "a0"}, {"cpu2", "cpu10"}, {"a", "b", "b"}, {"a", "a", "b"}, {"a", "c", "b"}, {"b", "a", "c"}, {"a", "b", "a"}}
	for _, meters := range wrong {
		checkWrongLines(t, fmt.Sprint("lines ", meters), meterLines(meters...))
	}
	for place := 1; place < impl.MaxMeters; place++ {
		l := someLines(impl.MaxMeters)
		l[place].Meter = l[place-1].Meter
		checkWrongLines(t, fmt.Sprint("alike at ", place), l)
		l = someLines(impl.MaxMeters)
		l[place], l[place-1] = l[place-1], l[place]
		checkWrongLines(t, fmt.Sprint("falling at ", place), l)
	}
}

func TestLineMicros(t *testing.T) {
	for place := range impl.MaxMeters {
		for _, micro := range edgeNumbers() {
			l := someLines(impl.MaxMeters)
			l[place].Micro = micro
			checkLines(t, fmt.Sprint("a Micro of ", micro, " at ", place), l, micro != 0 && inside(micro, -most, most))
		}
	}
}

func TestTotalOf(t *testing.T) {
	by := map[int64][]impl.Line{
		0: nil, 5: microLines(5), -5: microLines(-5), 145: microLines(100, -5, 50), -6: microLines(-1, -2, -3),
		6 * most: microLines(most, most, most, most, most, most), -6 * most: microLines(-most, -most, -most, -most, -most, -most),
	}
	for want, lines := range by {
		is(t, fmt.Sprint("the total ", want), impl.TotalOf(lines), want)
	}
	is(t, "of lines that make up for each other", impl.TotalOf(microLines(most, -most)), int64(0))
	is(t, "of one of 0", impl.TotalOf(microLines(5, 0)), int64(0))
	is(t, "of one beyond Most", impl.TotalOf(microLines(5, most+1)), int64(0))
	is(t, "of seven", impl.TotalOf(microLines(1, 1, 1, 1, 1, 1, 1)), int64(0))
}

// TestDrawnByHand writes each line out: the credit runs out within a line, at its end, and behind all.
func TestDrawnByHand(t *testing.T) {
	lines := func() []impl.Line { return linesAs("a=100 b=-5 c=50 d=1") }
	by := map[int64][]impl.Line{
		0:    linesAs("a=100 b=-5 c=50 d=1"),
		1:    linesAs("a=99 b=-5 c=50 d=1"),
		99:   linesAs("a=1 b=-5 c=50 d=1"),
		100:  linesAs("b=-5 c=50 d=1"),
		101:  linesAs("b=-5 c=49 d=1"),
		149:  linesAs("b=-5 c=1 d=1"),
		150:  linesAs("b=-5 d=1"),
		151:  linesAs("b=-5"),
		152:  linesAs("b=-5"),
		most: linesAs("b=-5"),
	}
	for credit, want := range by {
		is(t, fmt.Sprint("drawn by ", credit), impl.Drawn(lines(), credit), want)
	}
	is(t, "all below 0", impl.Drawn(microLines(-1, -most), 50), microLines(-1, -most))
	is(t, "all paid", len(impl.Drawn(microLines(most), most)), 0)
	is(t, "all but one paid", impl.Drawn(microLines(most), most-1), microLines(1))
	is(t, "a great credit, and greater lines", impl.Drawn(microLines(most, most), most), microLines(0, most)[1:])
	for _, credit := range []int64{-1, most + 1, math.MinInt64, math.MaxInt64} {
		checkNotDrawn(t, "a credit that is none", lines(), credit)
	}
}

// anyLines draws right ones.
func anyLines(draws *rand.Rand) []impl.Line {
	lines := meterLines(anyNames(draws, draws.Intn(impl.MaxMeters+1))...)
	for i := range lines {
		lines[i].Micro = 1 + draws.Int63n([]int64{3, 1000, most}[draws.Intn(3)])
		if draws.Intn(3) == 0 {
			lines[i].Micro = -lines[i].Micro
		}
	}
	return lines
}

func TestDrawnOfDrawnLines(t *testing.T) {
	draws := sameDraws()
	for i := range 1000 {
		lines := anyLines(draws)
		checkRightLines(t, fmt.Sprint("lines ", i), lines)
		checkDrawn(t, fmt.Sprint("lines ", i), lines, draws.Int63n(most+1))
		one, two := draws.Int63n(most/2), draws.Int63n(most/2)
		is(t, fmt.Sprint("lines ", i, " drawn in two"), linesOrNone(impl.Drawn(impl.Drawn(lines, one), two)), linesOrNone(impl.Drawn(lines, one+two)))
	}
}

// flatMeter has one price, and nothing else.
func flatMeter(price int64) impl.Meter {
	return impl.Meter{Name: "cpu", Agg: impl.AgSum, Tiers: []impl.Tier{{Upto: lastUpto, Price: price}}}
}

// pricedMeter has Tiers of these, Upto and Price in turn.
func pricedMeter(whole bool, numbers ...int64) impl.Meter {
	m := impl.Meter{Name: "cpu", Agg: impl.AgSum, Whole: whole}
	for i := 0; i < len(numbers); i += 2 {
		m.Tiers = append(m.Tiers, impl.Tier{Upto: numbers[i], Price: numbers[i+1]})
	}
	return m
}

// wantWhole is what so much costs, in numbers of any size, where all of it has one price.
func wantWhole(tiers []impl.Tier, amount int64) *big.Int {
	at := slices.IndexFunc(tiers, func(tier impl.Tier) bool { return tier.Upto >= amount })
	return bigProduct(amount, tiers[at].Price)
}

// wantByParts goes from the last Tier on: what lies above the one ahead costs its price, and the rest is left.
func wantByParts(tiers []impl.Tier, amount int64) *big.Int {
	cost := new(big.Int)
	for i := len(tiers) - 1; i >= 0; i-- {
		from := int64(0)
		if i > 0 {
			from = tiers[i-1].Upto
		}
		if amount > from {
			cost.Add(cost, bigProduct(amount-from, tiers[i].Price))
			amount = from
		}
	}
	return cost
}

// wantRate is what a right Meter costs, by the words of chapter 9.
func wantRate(m impl.Meter, used int64) impl.NumOut {
	if !inside(used, 0, mostUsed) {
		return code(impl.ErrForm)
	}
	amount := max(used-m.Free, 0)
	cost := wantByParts(m.Tiers, amount)
	if m.Whole {
		cost = wantWhole(m.Tiers, amount)
	}
	if least := big.NewInt(m.Least); used > 0 && cost.Cmp(least) < 0 {
		cost = least
	}
	return fits(cost)
}

// wantBetween is what lies between two, by the words of chapter 9.
func wantBetween(m impl.Meter, low int64, high int64) impl.NumOut {
	upper, lower := wantRate(m, high), wantRate(m, low)
	if upper.Code == impl.ErrForm || lower.Code == impl.ErrForm || low > high {
		return code(impl.ErrForm)
	}
	if upper.Code != impl.OK || lower.Code != impl.OK {
		return code(impl.ErrOver)
	}
	return number(upper.N - lower.N)
}

// checkRate asks Rate of a right Meter.
func checkRate(t *testing.T, m impl.Meter, used int64) {
	t.Helper()
	kept := m
	kept.Tiers = slices.Clone(m.Tiers)
	what := fmt.Sprint(used, " of ", told(m))
	is(t, what, impl.Rate(m, used), wantRate(kept, used))
	is(t, what+": the meter is left as it was", m, kept)
}

// checkBetween asks RateBetween of a right Meter.
func checkBetween(t *testing.T, m impl.Meter, low int64, high int64) {
	t.Helper()
	kept := m
	kept.Tiers = slices.Clone(m.Tiers)
	what := fmt.Sprint(low, " to ", high, " of ", told(m))
	is(t, what, impl.RateBetween(m, low, high), wantBetween(kept, low, high))
	is(t, what+": the meter is left as it was", m, kept)
}

// TestRateByHand writes each number out.
func TestRateByHand(t *testing.T) {
	c := wantDeskCatalog()
	cpu := map[int64]int64{0: 0, 1: 0, 10: 0, 11: 50, 12: 100, 109: 4950, 110: 5000, 111: 5020, 120: 5200, 1000000000000: 20000000002800}
	for used, want := range cpu {
		is(t, fmt.Sprint("cpu ", used), impl.Rate(c.Meters[0], used), number(want))
	}
	disk := map[int64]int64{0: 0, 1: 500, 50: 500, 51: 500, 71: 500, 72: 504, 100: 700, 200: 1400, 201: 1005, 1000000000000: 5000000000000}
	for used, want := range disk {
		is(t, fmt.Sprint("disk ", used), impl.Rate(c.Meters[1], used), number(want))
	}
	users := map[int64]int64{0: 0, 1: 1000, 12: 12000, 1000000000000: most}
	for used, want := range users {
		is(t, fmt.Sprint("users ", used), impl.Rate(c.Meters[2], used), number(want))
	}
	is(t, "cpu between", impl.RateBetween(c.Meters[0], 110, 120), number(200))
	is(t, "cpu across two tiers", impl.RateBetween(c.Meters[0], 109, 111), number(70))
	is(t, "disk between, which is less", impl.RateBetween(c.Meters[1], 200, 201), number(-395))
	is(t, "disk from nothing on", impl.RateBetween(c.Meters[1], 0, 1), number(500))
}

func TestRateLimits(t *testing.T) {
	for _, used := range append(farNumbers(), -2, 0, 1, mostUsed-1, mostUsed, mostUsed+1, mostUsed+2, most) {
		want := code(impl.ErrForm)
		if inside(used, 0, 1000000000000) {
			want = number(3 * used)
		}
		m := flatMeter(3)
		is(t, fmt.Sprint("used ", used), impl.Rate(m, used), want)
		m.Whole = true
		is(t, fmt.Sprint("used as a whole ", used), impl.Rate(m, used), want)
		is(t, fmt.Sprint("up to ", used), impl.RateBetween(m, 0, used), want)
		if want.Code == impl.OK {
			want = number(3*mostUsed - 3*used)
		}
		is(t, fmt.Sprint("from ", used), impl.RateBetween(m, used, mostUsed), want)
		checkRate(t, flatMeter(1000000), used)
	}
}

// wrongMeters are not right, each for one reason.
func wrongMeters() []impl.Meter {
	turns := []func(m *impl.Meter){
		func(m *impl.Meter) { m.Agg = 0 },
		func(m *impl.Meter) { m.Agg = 5 },
		func(m *impl.Meter) { m.Free = -1 },
		func(m *impl.Meter) { m.Free = 1000000001 },
		func(m *impl.Meter) { m.Least = -1 },
		func(m *impl.Meter) { m.Least = lastUpto + 1 },
		func(m *impl.Meter) { m.Tiers = nil },
		func(m *impl.Meter) { m.Tiers = someTiers(6) },
		func(m *impl.Meter) { m.Tiers[0].Upto = 0 },
		func(m *impl.Meter) { m.Tiers[0].Upto = lastUpto },
		func(m *impl.Meter) { m.Tiers[1].Upto-- },
		func(m *impl.Meter) { m.Tiers[1].Upto++ },
		func(m *impl.Meter) { m.Tiers[0].Price = -1 },
		func(m *impl.Meter) { m.Tiers[1].Price = 1000001 },
		func(m *impl.Meter) { m.Tiers[1].Price = math.MaxInt64 },
	}
	out := []impl.Meter{{}}
	for _, turn := range turns {
		m := someMeter()
		turn(&m)
		out = append(out, m)
	}
	for _, name := range wrongNames() {
		m := someMeter()
		m.Name = name
		out = append(out, m)
	}
	return out
}

func TestRateWrongMeters(t *testing.T) {
	for _, m := range wrongMeters() {
		for _, whole := range []bool{false, true} {
			m.Whole = whole
			for _, used := range append(farNumbers(), 0, 1, 100, mostUsed, mostUsed+1) {
				is(t, fmt.Sprint(used, " of ", told(m)), impl.Rate(m, used), code(impl.ErrForm))
				is(t, fmt.Sprint(used, " alike of ", told(m)), impl.RateBetween(m, used, used), code(impl.ErrForm))
				is(t, fmt.Sprint("up to ", used, " of ", told(m)), impl.RateBetween(m, 0, used), code(impl.ErrForm))
			}
		}
	}
}

// edgeUses are those at, below and above each limit of a Meter.
func edgeUses(m impl.Meter) []int64 {
	out := []int64{0, 1, mostUsed - 1, mostUsed}
	for _, limit := range append([]impl.Tier{{Upto: 0}}, m.Tiers...) {
		for _, used := range []int64{m.Free + limit.Upto - 1, m.Free + limit.Upto, m.Free + limit.Upto + 1, limit.Upto} {
			if inside(used, 0, mostUsed) {
				out = append(out, used)
			}
		}
	}
	return out
}

// edgeMeters have each number of Tiers, Free and Least at their limits, and are Whole or not.
func edgeMeters() []impl.Meter {
	var out []impl.Meter
	tiers := [][]impl.Tier{someTiers(1), someTiers(2), someTiers(3), someTiers(4), someTiers(5)}
	tiers = append(tiers, uptoTiers(1, 2, 3, 4, lastUpto), uptoTiers(lastUpto-1, lastUpto), pricedMeter(false, 10, 0, 20, 5, 30, 0, lastUpto, 1000).Tiers)
	for _, l := range tiers {
		for _, free := range []int64{0, 1, 10, 100, 1000000000} {
			for _, least := range []int64{0, 1, 500, 5000, lastUpto} {
				for _, whole := range []bool{false, true} {
					out = append(out, impl.Meter{Name: "cpu", Agg: impl.AgMax, Whole: whole, Free: free, Least: least, Tiers: slices.Clone(l)})
				}
			}
		}
	}
	return out
}

func TestRateAtTheEdges(t *testing.T) {
	for _, m := range edgeMeters() {
		uses := edgeUses(m)
		for i, used := range uses {
			checkRate(t, m, used)
			checkBetween(t, m, used, uses[len(uses)-1-i])
			checkBetween(t, m, used, used)
			checkBetween(t, m, min(used, 1), used)
		}
	}
}

// unitCost counts one by one: each of what costs has the Price of the Tier that it lies in.
func unitCost(m impl.Meter, used int64) int64 {
	var cost int64
	for unit := m.Free + 1; unit <= used; unit++ {
		for _, tier := range m.Tiers {
			if unit-m.Free <= tier.Upto {
				cost += tier.Price
				break
			}
		}
	}
	return cost
}

func TestRateOneByOne(t *testing.T) {
	for _, free := range []int64{0, 1, 5} {
		for _, numbers := range [][]int64{{lastUpto, 9}, {1, 7, lastUpto, 3}, {5, 2, 6, 9, 15, 0, 16, 4, lastUpto, 1}, {10, 0, lastUpto, 3}} {
			m := pricedMeter(false, numbers...)
			m.Free = free
			for used := range int64(40) {
				is(t, fmt.Sprint(used, " of ", told(m)), impl.Rate(m, used), number(unitCost(m, used)))
			}
		}
	}
}

// TestRateWhole goes over each step: all of it has the price of one Tier, so that more may cost less.
func TestRateWhole(t *testing.T) {
	m := pricedMeter(true, 10, 9, 20, 5, lastUpto, 1)
	by := map[int64]int64{0: 0, 1: 9, 9: 81, 10: 90, 11: 55, 19: 95, 20: 100, 21: 21, 22: 22}
	for used, want := range by {
		is(t, fmt.Sprint("used ", used), impl.Rate(m, used), number(want))
		m.Free = 3
		is(t, fmt.Sprint("used beyond Free ", used), impl.Rate(m, used+3), number(want))
		m.Free = 0
	}
	m.Free = 3
	is(t, "used up to Free", []impl.NumOut{impl.Rate(m, 1), impl.Rate(m, 2), impl.Rate(m, 3)}, []impl.NumOut{{}, {}, {}})
}

func TestRateLeast(t *testing.T) {
	m := flatMeter(7)
	m.Least = 700
	for _, whole := range []bool{false, true} {
		m.Whole = whole
		by := map[int64]int64{0: 0, 1: 700, 99: 700, 100: 700, 101: 707, mostUsed: 7 * mostUsed}
		for used, want := range by {
			is(t, fmt.Sprint("at least, of ", used), impl.Rate(m, used), number(want))
		}
	}
	m.Free = 1000
	is(t, "used, but all of it is free", impl.Rate(m, 1), number(700))
	is(t, "just all that is free", impl.Rate(m, 1000), number(700))
	is(t, "one beyond what is free", impl.Rate(m, 1001), number(700))
	is(t, "nothing used", impl.Rate(m, 0), number(0))
	m.Least = lastUpto
	is(t, "the greatest Least", impl.Rate(m, 1), number(lastUpto))
	m.Tiers[0].Price = 0
	is(t, "of what costs nothing", impl.Rate(m, mostUsed), number(lastUpto))
}

func TestRateOver(t *testing.T) {
	for _, whole := range []bool{false, true} {
		m := pricedMeter(whole, lastUpto, 1000)
		is(t, "just Most of all", impl.Rate(m, mostUsed), number(most))
		m.Tiers[0].Price = 1001
		is(t, "beyond Most", impl.Rate(m, mostUsed), code(impl.ErrOver))
		is(t, "the last below Most", impl.Rate(m, 999000999000), number(999999999999000))
		is(t, "one above Most", impl.Rate(m, 999000999001), code(impl.ErrOver))
		m.Tiers[0].Price = 1000000
		is(t, "the greatest price, just Most", impl.Rate(m, 1000000000), number(most))
		is(t, "the greatest price, beyond Most", impl.Rate(m, 1000000001), code(impl.ErrOver))
		is(t, "the greatest of all", impl.Rate(m, mostUsed), code(impl.ErrOver))
		m.Free, m.Least = 1000000000, lastUpto
		is(t, "just Most beside what is free", impl.Rate(m, 2000000000), number(most))
		is(t, "beyond Most beside what is free", impl.Rate(m, 2000000001), code(impl.ErrOver))
	}
	parts := pricedMeter(false, 500000000, 1000000, lastUpto, 1000)
	is(t, "parts that are just Most together", impl.Rate(parts, 500500000000), number(most))
	is(t, "parts that are beyond Most together", impl.Rate(parts, 500500000001), code(impl.ErrOver))
	many := pricedMeter(false, 1000000000, 1000000, 2000000000, 1000000, 3000000000, 1000000, 4000000000, 1000000, lastUpto, 1000)
	for billion := range int64(10) {
		checkRate(t, many, billion*1000000000)
	}
	dear := pricedMeter(false, 1, 1000000, 2, 1000000, 3, 1000000, 4, 1000000, lastUpto, 1000000)
	is(t, "all at the greatest price", impl.Rate(dear, mostUsed), code(impl.ErrOver))
}

func TestRateBetweenForm(t *testing.T) {
	for _, m := range []impl.Meter{flatMeter(3), flatMeter(1000000), pricedMeter(true, 10, 9, lastUpto, 1)} {
		ends := append(farNumbers(), -2, 0, 1, 10, 11, mostUsed-1, mostUsed, mostUsed+1, most)
		for _, low := range ends {
			for _, high := range ends {
				checkBetween(t, m, low, high)
			}
		}
		is(t, "falling", impl.RateBetween(m, 2, 1), code(impl.ErrForm))
		is(t, "falling, and both run over", impl.RateBetween(m, mostUsed, mostUsed-1), code(impl.ErrForm))
		is(t, "falling from what is too much", impl.RateBetween(m, mostUsed+1, mostUsed), code(impl.ErrForm))
		is(t, "both too much", impl.RateBetween(m, mostUsed+1, mostUsed+1), code(impl.ErrForm))
		is(t, "below 0", impl.RateBetween(m, -1, 0), code(impl.ErrForm))
	}
}

func TestRateBetweenOver(t *testing.T) {
	m := flatMeter(1000000)
	is(t, "of high", impl.RateBetween(m, 1, 1000000001), code(impl.ErrOver))
	is(t, "of high, just Most", impl.RateBetween(m, 1, 1000000000), number(most-1000000))
	is(t, "of both", impl.RateBetween(m, 1000000001, 1000000002), code(impl.ErrOver))
	is(t, "of both, alike", impl.RateBetween(m, 1000000001, 1000000001), code(impl.ErrOver))
	less := pricedMeter(true, 2000000000, 1000000, lastUpto, 1)
	is(t, "of low alone", impl.RateBetween(less, 2000000000, 2000000001), code(impl.ErrOver))
	is(t, "of low alone, just Most", impl.RateBetween(less, 1000000000, 2000000001), number(2000000001-most))
	is(t, "of neither", impl.RateBetween(less, 2000000001, 2000000002), number(1))
	free := pricedMeter(true, 1000000000, 1000000, lastUpto, 0)
	is(t, "as far below 0 as may be", impl.RateBetween(free, 1000000000, mostUsed), number(-most))
	is(t, "as far above 0 as may be", impl.RateBetween(m, 0, 1000000000), number(most))
}

// anyUsed draws small and great ones alike.
func anyUsed(draws *rand.Rand) int64 {
	return draws.Int63n([]int64{2, 100, 10000, 1000000000, mostUsed + 1}[draws.Intn(5)])
}

// anyRated draws a right Meter whose limits lie where anyUsed does.
func anyRated(draws *rand.Rand, whole bool) impl.Meter {
	m := impl.Meter{Name: "cpu", Agg: 1 + draws.Int63n(4), Whole: whole, Tiers: anyTiers(draws)}
	m.Free = draws.Int63n([]int64{1, 50, 1000000001}[draws.Intn(3)])
	m.Least = draws.Int63n([]int64{1, 5000, lastUpto + 1}[draws.Intn(3)])
	if draws.Intn(2) == 0 {
		upto := int64(0)
		for i := range m.Tiers[:len(m.Tiers)-1] {
			upto += 1 + draws.Int63n(1000)
			m.Tiers[i].Upto = upto
		}
	}
	for i := range m.Tiers {
		m.Tiers[i].Price %= []int64{10, 1001, 1000001}[draws.Intn(3)]
	}
	return m
}

// checkMore is promise 14: of more there is no less to pay, and where less runs over more does, too.
func checkMore(t *testing.T, m impl.Meter, low int64, high int64) {
	t.Helper()
	one, two := impl.Rate(m, low), impl.Rate(m, high)
	what := fmt.Sprint(low, " and ", high, " of ", told(m))
	if one.Code != impl.OK {
		is(t, what, two, code(impl.ErrOver))
	} else if two.Code == impl.OK {
		is(t, what, one.N <= two.N, true)
	}
}

// checkParted is promise 14: from low to the middle, and on to high, is what low to high is. It tells whether that could be told.
func checkParted(t *testing.T, m impl.Meter, l []int64) bool {
	t.Helper()
	first, second, all := impl.RateBetween(m, l[0], l[1]), impl.RateBetween(m, l[1], l[2]), impl.RateBetween(m, l[0], l[2])
	if first.Code != impl.OK || second.Code != impl.OK {
		return false
	}
	is(t, fmt.Sprint("by parts ", l, " of ", told(m)), number(first.N+second.N), all)
	return true
}

func TestRateOfMore(t *testing.T) {
	draws := sameDraws()
	parted := map[bool]int{}
	for range 4000 {
		m := anyRated(draws, false)
		l := []int64{anyUsed(draws), anyUsed(draws), anyUsed(draws)}
		slices.Sort(l)
		for _, used := range l {
			checkRate(t, m, used)
		}
		checkMore(t, m, l[0], l[1])
		checkMore(t, m, l[1], l[2])
		checkBetween(t, m, l[0], l[2])
		is(t, "from nothing on", impl.RateBetween(m, 0, l[1]), impl.Rate(m, l[1]))
		parted[checkParted(t, m, l)]++
	}
	is(t, "some were told, and some ran over", []bool{parted[true] > 1000, parted[false] > 100}, []bool{true, true})
}

// TestRateOfWholes holds drawn meters that are rated as a whole against the words; parts make up all of these, too.
func TestRateOfWholes(t *testing.T) {
	draws := sameDraws()
	lessForMore := 0
	for range 4000 {
		m := anyRated(draws, true)
		l := []int64{anyUsed(draws), anyUsed(draws), anyUsed(draws)}
		slices.Sort(l)
		for _, used := range l {
			checkRate(t, m, used)
		}
		checkBetween(t, m, l[0], l[2])
		checkParted(t, m, l)
		if impl.RateBetween(m, l[0], l[2]).N < 0 {
			lessForMore++
		}
	}
	is(t, "of some more cost less", lessForMore > 20, true)
}

func TestRateOfMoreAtTheEdges(t *testing.T) {
	for _, m := range edgeMeters() {
		uses := edgeUses(m)
		slices.Sort(uses)
		for i := 2; i < len(uses); i++ {
			if !m.Whole {
				checkMore(t, m, uses[i-1], uses[i])
			}
			checkParted(t, m, uses[i-2:i+1])
		}
	}
}

// usedBy is a right Window whose Sum, Most and peak are that; it has no tags.
func usedBy(account string, meter string, sum int64) impl.Window {
	w := withHours(someWindow(), hourSums(1, sum))
	w.Account, w.Meter, w.Tags = account, meter, nil
	return w
}

// inMonth lays a Window of one hour into another month.
func inMonth(w impl.Window, month int64) impl.Window {
	w.Month, w.Hours = month, hourSums(month, w.Sum)
	return w
}

// keptWindows is a copy that no call can reach.
func keptWindows(windows []impl.Window) []impl.Window {
	var out []impl.Window
	for _, w := range windows {
		out = append(out, keptWindow(w))
	}
	return out
}

// wantCodes tells ErrNone and ErrState of an account's windows, as chapter 9 does, and its windows by their meters.
func wantCodes(c impl.Catalog, account string, windows []impl.Window) (map[string]impl.Window, int64) {
	own, count := map[string]impl.Window{}, 0
	for _, w := range windows {
		if w.Account == account {
			own[w.Meter] = w
			count++
		}
	}
	for meter := range own {
		if !slices.ContainsFunc(c.Meters, func(m impl.Meter) bool { return m.Name == meter }) {
			return nil, impl.ErrNone
		}
	}
	if len(own) < count {
		return nil, impl.ErrState
	}
	return own, impl.OK
}

// creditOf is that of an account, 0 where there is none.
func creditOf(c impl.Catalog, account string) int64 {
	for _, credit := range c.Credits {
		if credit.Account == account {
			return credit.Micro
		}
	}
	return 0
}

// wantBill is the bill of things that are right.
func wantBill(c impl.Catalog, account string, windows []impl.Window) impl.BillOut {
	own, code := wantCodes(c, account, windows)
	if code != impl.OK {
		return impl.BillOut{Code: code}
	}
	var lines []impl.Line
	for _, m := range c.Meters {
		w, there := own[m.Name]
		if !there {
			continue
		}
		cost := wantRate(m, wantValue(w, m.Agg))
		if cost.Code != impl.OK {
			return impl.BillOut{Code: cost.Code}
		}
		if cost.N != 0 {
			lines = append(lines, impl.Line{Meter: m.Name, Micro: cost.N})
		}
	}
	return impl.BillOut{Lines: wantDrawn(lines, creditOf(c, account))}
}

// isBill asks BillOf, and that what is handed in is left as it was.
func isBill(t *testing.T, what string, c impl.Catalog, account string, windows []impl.Window, want impl.BillOut) {
	t.Helper()
	catalog, given := keptCatalog(c), keptWindows(windows)
	got := impl.BillOf(c, account, windows)
	is(t, what, impl.BillOut{Lines: linesOrNone(got.Lines), Code: got.Code}, want)
	is(t, what+": the lines are right", impl.LinesRight(got.Lines), true)
	is(t, what+": the catalog is left as it was", keptCatalog(c), catalog)
	is(t, what+": the windows are left as they were", keptWindows(windows), given)
}

// checkBill asks for the bill of windows, in their order, turned round, and with each of them first.
func checkBill(t *testing.T, what string, c impl.Catalog, account string, windows []impl.Window) impl.BillOut {
	t.Helper()
	want := wantBill(c, account, windows)
	isBill(t, what, c, account, windows, want)
	turned := slices.Clone(windows)
	slices.Reverse(turned)
	isBill(t, what+", turned round", c, account, turned, want)
	for i := range windows {
		isBill(t, fmt.Sprint(what, ", from ", i, " on"), c, account, append(slices.Clone(windows[i:]), windows[:i]...), want)
	}
	return want
}

// checkBillCode asks for a bill that can't be: no line may stand beside the code.
func checkBillCode(t *testing.T, what string, c impl.Catalog, account string, windows []impl.Window, code int64) {
	t.Helper()
	isBill(t, what, c, account, windows, impl.BillOut{Code: code})
}

// flatCatalog has meters of these names that tell their Sum, 2 each, without Free and Least, and no credit.
func flatCatalog(names ...string) impl.Catalog {
	var c impl.Catalog
	for _, name := range names {
		m := flatMeter(2)
		m.Name = name
		c.Meters = append(c.Meters, m)
	}
	return c
}

// TestBillByHand writes each line out.
func TestBillByHand(t *testing.T) {
	c := wantDeskCatalog()
	cpu, disk, users := usedBy("ann", "cpu", 120), usedBy("ann", "disk", 100), usedBy("ann", "users", 9)
	users.Tags = []string{"s", "t"}
	all := []impl.Window{users, disk, cpu}
	is(t, "a credit of 3000", impl.BillOf(c, "ann", all), impl.BillOut{Lines: linesAs("cpu=2200 disk=700 users=2000")})
	is(t, "another account", len(impl.BillOf(c, "bob", all).Lines), 0)
	c.Credits[0].Account = "bob"
	is(t, "a credit of another one", impl.BillOf(c, "ann", all), impl.BillOut{Lines: linesAs("cpu=5200 disk=700 users=2000")})
	c.Credits[0] = impl.Credit{Account: "ann", Micro: 5300}
	is(t, "a credit beyond a line", impl.BillOf(c, "ann", all), impl.BillOut{Lines: linesAs("disk=600 users=2000")})
	c.Credits[0].Micro = 7900
	is(t, "a credit of all", len(impl.BillOf(c, "ann", all).Lines), 0)
	is(t, "no window", impl.BillOf(c, "ann", nil).Code, int64(impl.OK))
	is(t, "no line without a window", len(impl.BillOf(c, "ann", nil).Lines), 0)
	is(t, "a catalog of nothing", impl.BillOf(impl.Catalog{}, "ann", nil).Code, int64(impl.OK))
}

func TestBillWrongCatalogs(t *testing.T) {
	for _, m := range wrongMeters() {
		checkBillCode(t, "a meter that is not right", impl.Catalog{Meters: []impl.Meter{m}}, "ann", []impl.Window{usedBy("ann", "cpu", 5)}, impl.ErrForm)
		checkBillCode(t, "a meter that is not right, and no window", impl.Catalog{Meters: []impl.Meter{m}}, "ann", nil, impl.ErrForm)
	}
	wrong := []impl.Catalog{flatCatalog("cpu", "cpu"), flatCatalog("disk", "cpu"), flatCatalog("cpu", "d", "e", "f", "g", "h", "i"), flatCatalog("cpu"), flatCatalog("cpu"), flatCatalog("cpu")}
	wrong[3].Credits = []impl.Credit{{Account: "bob", Micro: -1}}
	wrong[4].Credits = []impl.Credit{{Account: "ann", Micro: lastUpto + 1}}
	wrong[5].Credits = namedCredits("b", "a")
	for i, c := range wrong {
		checkBillCode(t, fmt.Sprint("catalog ", i), c, "ann", []impl.Window{usedBy("ann", "cpu", 5)}, impl.ErrForm)
	}
}

func TestBillAccounts(t *testing.T) {
	c := flatCatalog("cpu")
	for _, account := range append(wrongNames(), longText(impl.MaxBytes)) {
		want := int64(impl.ErrForm)
		if len(account) > impl.MaxBytes {
			want = impl.ErrSize
		}
		checkBillCode(t, "the account "+told(account), c, account, []impl.Window{usedBy("ann", "cpu", 5)}, want)
		checkBillCode(t, "the account without windows "+told(account), c, account, nil, want)
	}
	for _, account := range []string{"a", "z", "a0", "a_", longText(20)} {
		checkBill(t, "the account "+account, c, account, []impl.Window{usedBy(account, "cpu", 5), usedBy("ann", "cpu", 7)})
	}
}

// wrongWindows are not right, each for one reason.
func wrongWindows(account string) []impl.Window {
	turns := []func(w *impl.Window){
		func(w *impl.Window) { w.Meter = "Cpu" },
		func(w *impl.Window) { w.Month = -1 },
		func(w *impl.Window) { w.Month++ },
		func(w *impl.Window) { w.Events = 0 },
		func(w *impl.Window) { w.Events = 1001 },
		func(w *impl.Window) { w.Sum++ },
		func(w *impl.Window) { w.Most = w.Sum + 1 },
		func(w *impl.Window) { w.Tags = []string{"b", "a"} },
		func(w *impl.Window) { w.Hours = nil },
		func(w *impl.Window) { w.Hours[0].Sum = -1 },
	}
	out := []impl.Window{{}}
	for _, turn := range turns {
		w := usedBy(account, "cpu", 5)
		turn(&w)
		out = append(out, w)
	}
	return out
}

// TestBillWrongWindows lays a window that is not right alone, ahead of and behind others; that it is of another account is no help.
func TestBillWrongWindows(t *testing.T) {
	c := flatCatalog("cpu", "disk")
	for _, account := range []string{"ann", "bob"} {
		for _, w := range wrongWindows(account) {
			own, other := usedBy("ann", "disk", 7), usedBy("bob", "disk", 7)
			for _, windows := range [][]impl.Window{{w}, {w, own}, {own, w}, {other, own, w}, {own, w, other}} {
				checkBillCode(t, "one that is not right: "+told(w), c, "ann", windows, impl.ErrForm)
			}
		}
	}
	for _, account := range wrongNames() {
		checkBillCode(t, "one of "+told(account), c, "ann", []impl.Window{usedBy(account, "cpu", 5)}, impl.ErrForm)
	}
}

// manyWindows are right, the first of them of ann and cpu, the others of bob.
func manyWindows(count int) []impl.Window {
	out := []impl.Window{usedBy("ann", "cpu", 5)}
	for len(out) < count {
		out = append(out, usedBy("bob", "cpu", int64(len(out))))
	}
	return out[:count]
}

func TestBillWindowCounts(t *testing.T) {
	c := flatCatalog("cpu")
	for _, count := range []int{0, 1, 2, 19, maxBilled, maxBilled + 1, 22, impl.MaxList - 1, impl.MaxList, impl.MaxList + 1, 1000} {
		windows := manyWindows(count)
		what := fmt.Sprint(count, " windows")
		switch {
		case count > impl.MaxList:
			checkBillCode(t, what, c, "ann", windows, impl.ErrSize)
		case count > maxBilled:
			checkBillCode(t, what, c, "ann", windows, impl.ErrForm)
			checkBillCode(t, what+" of others", c, "cyd", windows, impl.ErrForm)
		default:
			checkBill(t, what, c, "ann", windows)
			checkBill(t, what+" of others", c, "cyd", windows)
		}
	}
	last := manyWindows(maxBilled)
	last[maxBilled-1].Events = 0
	checkBillCode(t, "the last of 20 is not right", c, "ann", last, impl.ErrForm)
	is(t, "an empty list of windows", impl.BillOf(c, "ann", []impl.Window{}).Code, int64(impl.OK))
}

func TestBillNone(t *testing.T) {
	c := flatCatalog("cpu", "disk")
	for _, meter := range []string{"a", "cp", "cpu_", "cpuu", "d", "dis", "disk0", "z", "ann"} {
		missing, there, others := usedBy("ann", meter, 5), usedBy("ann", "disk", 7), usedBy("bob", meter, 9)
		for _, windows := range [][]impl.Window{{missing}, {missing, there}, {there, missing}, {others, missing}, {missing, others}} {
			is(t, "no meter "+meter, checkBill(t, "no meter "+meter, c, "ann", windows), impl.BillOut{Code: impl.ErrNone})
		}
		for _, windows := range [][]impl.Window{{others}, {others, there}, {there, others}} {
			is(t, "another one has no meter "+meter, checkBill(t, "another one's "+meter, c, "ann", windows).Code, int64(impl.OK))
		}
	}
	nought := usedBy("ann", "net", 0)
	checkBillCode(t, "no meter, and nothing used", c, "ann", []impl.Window{nought}, impl.ErrNone)
	checkBillCode(t, "a catalog of nothing", impl.Catalog{}, "ann", []impl.Window{nought}, impl.ErrNone)
}

func TestBillState(t *testing.T) {
	c := flatCatalog("cpu", "disk", "net")
	cpu, disk, net := usedBy("ann", "cpu", 5), usedBy("ann", "disk", 7), usedBy("ann", "net", 9)
	twice := []impl.Window{cpu, usedBy("ann", "cpu", 6), inMonth(cpu, 0), inMonth(cpu, lastMonth)}
	for i, w := range twice {
		for _, windows := range [][]impl.Window{{cpu, w}, {w, cpu}, {cpu, disk, w}, {disk, cpu, net, w}, {w, net, disk, cpu}, {cpu, usedBy("bob", "cpu", 8), w}} {
			is(t, fmt.Sprint("twice cpu ", i), checkBill(t, fmt.Sprint("twice cpu ", i), c, "ann", windows), impl.BillOut{Code: impl.ErrState})
		}
		w.Account = "bob"
		is(t, "cpu once of each", checkBill(t, "cpu once of each", c, "ann", []impl.Window{cpu, w}).Code, int64(impl.OK))
		is(t, "twice of another", checkBill(t, "twice of another", c, "ann", []impl.Window{w, cpu, w, disk}).Code, int64(impl.OK))
	}
	is(t, "the last one twice", checkBill(t, "the last one twice", c, "ann", []impl.Window{net, cpu, disk, net}).Code, int64(impl.ErrState))
	is(t, "each of another month", checkBill(t, "each of another month", c, "ann", []impl.Window{cpu, inMonth(disk, 0), inMonth(net, 7)}).Code, int64(impl.OK))
	nought := usedBy("ann", "cpu", 0)
	is(t, "twice, and nothing used", checkBill(t, "twice, and nothing used", c, "ann", []impl.Window{nought, nought}).Code, int64(impl.ErrState))
}

// dearCatalog has meters of which 1000000001 and more runs over, and a credit of ann.
func dearCatalog(names ...string) impl.Catalog {
	c := flatCatalog(names...)
	for i := range c.Meters {
		c.Meters[i].Tiers[0].Price = 1000000
	}
	c.Credits = []impl.Credit{{Account: "ann", Micro: lastUpto}}
	return c
}

// TestBillOrder lays a fault with all those that are named behind it.
func TestBillOrder(t *testing.T) {
	c, wrong := dearCatalog("cpu", "disk"), flatCatalog("b", "a")
	over := usedBy("ann", "cpu", mostUsed)
	state := []impl.Window{over, over}
	none := append(slices.Clone(state), usedBy("ann", "net", 5))
	first := append([]impl.Window{usedBy("ann", "a", 5)}, state...)
	form := append(slices.Clone(none), impl.Window{Account: "ann"})
	checkBillCode(t, "runs over", c, "ann", state[:1], impl.ErrOver)
	checkBillCode(t, "twice, ahead of running over", c, "ann", state, impl.ErrState)
	checkBillCode(t, "not there, ahead of twice", c, "ann", none, impl.ErrNone)
	checkBillCode(t, "not there, and first, ahead of twice", c, "ann", first, impl.ErrNone)
	checkBillCode(t, "not there, ahead of running over", c, "ann", none[1:], impl.ErrNone)
	checkBillCode(t, "not right, ahead of not there", c, "ann", form, impl.ErrForm)
	checkBillCode(t, "a catalog that is not right, ahead of not there", wrong, "ann", none, impl.ErrForm)
	checkBillCode(t, "no account", c, "", none, impl.ErrForm)
	long := slices.Repeat(form, 101)[:impl.MaxList+1]
	checkBillCode(t, "too many windows, and all else", wrong, "", long, impl.ErrSize)
	checkBillCode(t, "MaxList windows, and all else", wrong, "", long[1:], impl.ErrForm)
	checkBillCode(t, "too long an account, and all else", wrong, longText(impl.MaxBytes+1), form, impl.ErrSize)
	checkBillCode(t, "MaxBytes bytes, and all else", wrong, longText(impl.MaxBytes), form, impl.ErrForm)
	checkBillCode(t, "both too much", wrong, longText(impl.MaxBytes+1), long, impl.ErrSize)
}

func TestBillOver(t *testing.T) {
	c := dearCatalog("cpu", "disk", "net")
	just, over := int64(1000000000), int64(1000000001)
	for place, name := range []string{"cpu", "disk", "net"} {
		windows := []impl.Window{usedBy("ann", "cpu", 1), usedBy("ann", "disk", 2), usedBy("ann", "net", 3)}
		windows[place] = usedBy("ann", name, just)
		is(t, name+" just Most", checkBill(t, name+" just Most", c, "ann", windows).Code, int64(impl.OK))
		windows[place] = usedBy("ann", name, over)
		is(t, name+" runs over", checkBill(t, name+" runs over", c, "ann", windows), impl.BillOut{Code: impl.ErrOver})
		windows[place].Account = "bob"
		is(t, name+" of another runs over", checkBill(t, name+" of another runs over", c, "ann", windows).Code, int64(impl.OK))
	}
	c.Credits = nil
	all := []impl.Window{usedBy("ann", "cpu", just), usedBy("ann", "disk", just), usedBy("ann", "net", just)}
	is(t, "each just Most", impl.BillOf(c, "ann", all), impl.BillOut{Lines: linesAs("cpu=1000000000000000 disk=1000000000000000 net=1000000000000000")})
	is(t, "more than Most together", impl.TotalOf(impl.BillOf(c, "ann", all).Lines), 3*most)
}

// TestBillKinds asks each kind of aggregate, of a window in which no two are alike.
func TestBillKinds(t *testing.T) {
	w := withHours(someWindow(), hourSums(1, 101, 30))
	w.Most, w.Tags = 100, []string{"a", "b"}
	for agg, want := range map[int64]int64{impl.AgSum: 131, impl.AgMax: 100, impl.AgTags: 2, impl.AgPeak: 101} {
		c := flatCatalog("cpu")
		c.Meters[0].Agg = agg
		is(t, fmt.Sprint("by ", agg), impl.BillOf(c, "ann", []impl.Window{w}), impl.BillOut{Lines: []impl.Line{{Meter: "cpu", Micro: 2 * want}}})
		checkBill(t, fmt.Sprint("by ", agg), c, "ann", []impl.Window{w})
	}
	c := flatCatalog("a", "b", "c", "d")
	var windows []impl.Window
	for i := range c.Meters {
		c.Meters[i].Agg = int64(4 - i)
		windows = append(windows, keptWindow(w))
		windows[i].Meter = c.Meters[i].Name
	}
	is(t, "one of each kind", checkBill(t, "one of each kind", c, "ann", windows).Lines, linesAs("a=202 b=4 c=200 d=262"))
}

func TestBillSorted(t *testing.T) {
	names := sevenNames()[:6]
	c := flatCatalog(names...)
	var windows []impl.Window
	var want []impl.Line
	for i, name := range names {
		windows = append(windows, usedBy("ann", name, int64(60-10*i)))
		want = append(want, impl.Line{Meter: name, Micro: int64(120 - 20*i)})
	}
	draws := sameDraws()
	for range 100 {
		draws.Shuffle(len(windows), func(a int, b int) { windows[a], windows[b] = windows[b], windows[a] })
		isBill(t, "in any order", c, "ann", windows, impl.BillOut{Lines: want})
	}
	is(t, "some of them", checkBill(t, "some of them", c, "ann", windows[:3]).Code, int64(impl.OK))
	isBill(t, "the greatest catalog", greatCatalog(), "ann", nil, impl.BillOut{})
}

// TestBillOfNought asks for windows that cost nothing: no line is of them.
func TestBillOfNought(t *testing.T) {
	c := flatCatalog("cpu", "disk", "net", "users")
	c.Meters[1].Free, c.Meters[2].Tiers[0].Price, c.Meters[3].Agg = 10, 0, impl.AgTags
	c.Meters[3].Least = 500
	windows := []impl.Window{usedBy("ann", "cpu", 0), usedBy("ann", "disk", 10), usedBy("ann", "net", 99), usedBy("ann", "users", 99)}
	isBill(t, "all of 0", c, "ann", windows, impl.BillOut{})
	checkBill(t, "all of 0", c, "ann", windows)
	windows[1] = usedBy("ann", "disk", 11)
	isBill(t, "one beyond Free", c, "ann", windows, impl.BillOut{Lines: linesAs("disk=2")})
	windows[3].Tags = []string{"t"}
	isBill(t, "one tag", c, "ann", windows, impl.BillOut{Lines: linesAs("disk=2 users=500")})
	c.Meters[0].Least = 500
	isBill(t, "at least, but nothing was used", c, "ann", windows, impl.BillOut{Lines: linesAs("disk=2 users=500")})
	c.Meters[1].Free, c.Meters[1].Least = 11, 3
	isBill(t, "at least, though all is free", c, "ann", windows, impl.BillOut{Lines: linesAs("disk=3 users=500")})
}

// TestBillCredits draws a credit that is less than, just as much as, and more than each line, and all of them.
func TestBillCredits(t *testing.T) {
	c := flatCatalog("a", "b", "c")
	windows := []impl.Window{usedBy("ann", "c", 5), usedBy("ann", "a", 50), usedBy("ann", "b", 20), usedBy("bob", "a", 1)}
	by := map[int64][]impl.Line{
		0: linesAs("a=100 b=40 c=10"), 1: linesAs("a=99 b=40 c=10"), 99: linesAs("a=1 b=40 c=10"), 100: linesAs("b=40 c=10"),
		101: linesAs("b=39 c=10"), 139: linesAs("b=1 c=10"), 140: linesAs("c=10"), 141: linesAs("c=9"), 149: linesAs("c=1"), 150: nil, 151: nil, lastUpto: nil,
	}
	for credit, want := range by {
		own := impl.Credit{Account: "ann", Micro: credit}
		c.Credits = []impl.Credit{own}
		isBill(t, fmt.Sprint("a credit of ", credit), c, "ann", windows, impl.BillOut{Lines: want})
		c.Credits = []impl.Credit{{Account: "an", Micro: 7}, own, {Account: "bob", Micro: 9}}
		isBill(t, fmt.Sprint("a credit among others of ", credit), c, "ann", windows, impl.BillOut{Lines: want})
		c.Credits = []impl.Credit{{Account: "an", Micro: credit}, {Account: "bob", Micro: credit}}
		isBill(t, fmt.Sprint("a credit of others of ", credit), c, "ann", windows, impl.BillOut{Lines: by[0]})
	}
}

// anyPriced draws a right Catalog without credits whose meters rate what anyWindow uses.
func anyPriced(draws *rand.Rand) impl.Catalog {
	var c impl.Catalog
	for _, name := range sevenNames()[:1+draws.Intn(6)] {
		m := anyRated(draws, draws.Intn(2) == 0)
		m.Name = name
		c.Meters = append(c.Meters, m)
	}
	return c
}

// anyWindowsOf draws right ones of an account, mostly each of a meter of its own.
func anyWindowsOf(draws *rand.Rand, c impl.Catalog, account string, count int) []impl.Window {
	var out []impl.Window
	places := draws.Perm(len(c.Meters))
	for i := range min(count, len(places)) {
		w := anyWindow(draws, draws.Int63n(lastMonth+1), []int64{2, 100, 1000000000}[draws.Intn(3)])
		w.Account, w.Meter = account, c.Meters[places[i]].Name
		out = append(out, w)
	}
	if len(out) > 0 && draws.Intn(20) == 0 {
		out[0].Meter = c.Meters[draws.Intn(len(c.Meters))].Name
	}
	if len(out) > 0 && draws.Intn(20) == 0 {
		out[0].Meter = "zz"
	}
	return out
}

// othersWindows are right ones of other accounts, of meters that are there or not, and some of them twice.
func othersWindows(draws *rand.Rand, c impl.Catalog) []impl.Window {
	out := anyWindowsOf(draws, c, "bob", 6)
	out = append(out, usedBy("an", "nowhere", 5), usedBy("annn", c.Meters[0].Name, mostUsed))
	return append(out, out[0], out[0])
}

// checkOwnAlone is promise 15: windows of other accounts, wherever they stand, change nothing.
func checkOwnAlone(t *testing.T, what string, draws *rand.Rand, c impl.Catalog, own []impl.Window) impl.BillOut {
	t.Helper()
	want := checkBill(t, what, c, "ann", own)
	mixed := append(slices.Clone(own), othersWindows(draws, c)...)
	draws.Shuffle(len(mixed), func(a int, b int) { mixed[a], mixed[b] = mixed[b], mixed[a] })
	isBill(t, what+" among others", c, "ann", mixed, want)
	return want
}

// checkWithCredit is promise 15: the total is less by no more than the credit, and no line is below 0 by it.
func checkWithCredit(t *testing.T, what string, c impl.Catalog, own []impl.Window, without []impl.Line, credit int64) {
	t.Helper()
	c.Credits = append(namedCredits("ab"), impl.Credit{Account: "ann", Micro: credit}, impl.Credit{Account: "bob", Micro: lastUpto})
	got := checkBill(t, fmt.Sprint(what, " with a credit of ", credit), c, "ann", own)
	total := impl.TotalOf(without)
	is(t, fmt.Sprint(what, " less by ", credit), total-impl.TotalOf(got.Lines), min(credit, total))
	for _, line := range got.Lines {
		is(t, what+": a line above 0", line.Micro > 0, true)
	}
}

func TestBillsAreOfTheirWindows(t *testing.T) {
	draws := sameDraws()
	codes := map[int64]int{}
	for i := range 800 {
		c := anyPriced(draws)
		own := anyWindowsOf(draws, c, "ann", draws.Intn(7))
		what := fmt.Sprint("bill ", i)
		bill := checkOwnAlone(t, what, draws, c, own)
		codes[bill.Code]++
		if bill.Code != impl.OK {
			continue
		}
		total := impl.TotalOf(bill.Lines)
		for _, credit := range []int64{0, 1, total / 2, total - 1, total, total + 1, draws.Int63n(lastUpto + 1), lastUpto} {
			if inside(credit, 0, lastUpto) {
				checkWithCredit(t, what, c, own, bill.Lines, credit)
			}
		}
	}
	told := []bool{codes[impl.OK] > 200, codes[impl.ErrNone] > 5, codes[impl.ErrState] > 5, codes[impl.ErrOver] > 5, len(codes) == 4}
	is(t, "bills, and each of the codes", told, []bool{true, true, true, true, true})
}

// spoilLines turns all that lines hold, and what room they have behind their end.
func spoilLines(l []impl.Line) {
	room := l[:cap(l)]
	for i := range room {
		room[i] = impl.Line{Meter: "spoiled", Micro: -1}
	}
}

// TestDrawnSharesNothing turns what was answered, and what was handed in: neither may be seen elsewhere.
func TestDrawnSharesNothing(t *testing.T) {
	for _, credit := range []int64{0, 1, 100, 150, most} {
		lines := someLines(impl.MaxMeters)
		want := wantDrawn(lines, credit)
		first, second := impl.Drawn(lines, credit), impl.Drawn(lines, credit)
		spoilLines(first)
		is(t, "the lines handed in", lines, someLines(impl.MaxMeters))
		is(t, "drawn beside it", second, want)
		spoilLines(lines)
		is(t, "drawn ahead of that", second, want)
	}
}

func TestBillSharesNothing(t *testing.T) {
	for _, credit := range []int64{0, 50} {
		c := flatCatalog("cpu", "disk")
		c.Credits = []impl.Credit{{Account: "ann", Micro: credit}}
		windows := []impl.Window{usedBy("ann", "disk", 500), usedBy("ann", "cpu", 500), usedBy("bob", "cpu", 7)}
		catalog, given := keptCatalog(c), keptWindows(windows)
		want := wantBill(c, "ann", windows)
		first, second := impl.BillOf(c, "ann", windows), impl.BillOf(c, "ann", windows)
		spoilLines(first.Lines)
		is(t, "the catalog handed in", c, catalog)
		is(t, "the windows handed in", windows, given)
		is(t, "billed beside it", second, want)
		spoilCatalog(c)
		for _, w := range windows {
			spoilWindow(w)
		}
		is(t, "billed ahead of that", second, want)
	}
}

// TestLinesLeaveRoomBehind hands in lists that have room behind their end: nothing may be laid there.
func TestLinesLeaveRoomBehind(t *testing.T) {
	lines := append(someLines(4), slices.Repeat([]impl.Line{{Meter: "behind", Micro: 9}}, 20)...)
	kept := slices.Clone(lines)
	checkRightLines(t, "with room behind", lines[:4])
	is(t, "the room behind lines", lines, kept)
	windows := append([]impl.Window{usedBy("ann", "disk", 5), usedBy("ann", "cpu", 5)}, manyWindows(10)...)
	keptRoom := keptWindows(windows)
	checkBill(t, "with room behind", flatCatalog("cpu", "disk"), "ann", windows[:2])
	is(t, "the room behind windows", keptWindows(windows), keptRoom)
}

func TestLineTextsAreNew(t *testing.T) {
	lines := meterLines(strings.Repeat("m", 20))
	is(t, "a meter of a line that was drawn", sameBytes(impl.Drawn(lines, 1)[0].Meter, lines[0].Meter), false)
	c := flatCatalog(strings.Repeat("c", 20))
	w := usedBy("ann", strings.Repeat("c", 20), 5)
	for _, credit := range []int64{0, 1} {
		c.Credits = []impl.Credit{{Account: "ann", Micro: credit}}
		got := impl.BillOf(c, "ann", []impl.Window{w}).Lines[0].Meter
		is(t, "a meter of a catalog", sameBytes(got, c.Meters[0].Name), false)
		is(t, "a meter of a window", sameBytes(got, w.Meter), false)
	}
}
