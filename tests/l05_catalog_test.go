package tests

import (
	"fmt"
	"math"
	"math/rand"
	"slices"
	"strings"
	"testing"
	"unsafe"

	"loop.example/g00562/impl"
)

// lastUpto is the Upto that the last Tier must have.
const lastUpto = int64(1000000000000)

// someTiers are right, and as many as are asked for.
func someTiers(count int) []impl.Tier {
	var out []impl.Tier
	for i := range count {
		out = append(out, impl.Tier{Upto: int64(i+1) * 100, Price: int64(50 - i)})
	}
	if count > 0 {
		out[count-1].Upto = lastUpto
	}
	return out
}

// someMeter is right; a test turns the field that it asks for.
func someMeter() impl.Meter {
	return impl.Meter{Name: "cpu", Agg: impl.AgSum, Free: 10, Least: 7, Tiers: someTiers(2)}
}

// namedMeters are right, of these names.
func namedMeters(names ...string) []impl.Meter {
	var out []impl.Meter
	for i, name := range names {
		m := someMeter()
		m.Name, m.Agg, m.Whole, m.Free = name, int64(i%4+1), i%2 == 0, int64(i)
		m.Tiers = someTiers(i%impl.MaxTiers + 1)
		out = append(out, m)
	}
	return out
}

// namedCredits are right, of these accounts, none of 0.
func namedCredits(accounts ...string) []impl.Credit {
	var out []impl.Credit
	for i, account := range accounts {
		out = append(out, impl.Credit{Account: account, Micro: int64(i) + 1})
	}
	return out
}

// sevenNames rise; one more than a catalog may have.
func sevenNames() []string {
	return []string{"a", "a0", "a_", "aa", "b", "longer_than_the_rest", "z"}
}

// fullCatalog has as many of each as may be.
func fullCatalog() impl.Catalog {
	names := sevenNames()[:6]
	return impl.Catalog{Meters: namedMeters(names...), Credits: namedCredits(names...)}
}

// wholeNumber tells a yes or no as chapter 6 lays it.
func wholeNumber(whole bool) int64 {
	if whole {
		return 1
	}
	return 0
}

// nums lays numbers one behind the other.
func nums(numbers ...int64) string {
	out := ""
	for _, n := range numbers {
		out += impl.PutNum(n)
	}
	return out
}

// catalogBytes lays a Catalog as chapter 6 says, whether it is right or not.
func catalogBytes(c impl.Catalog) string {
	out := nums(int64(len(c.Meters)))
	for _, m := range c.Meters {
		out += nums(int64(len(m.Name))) + m.Name + nums(m.Agg, wholeNumber(m.Whole), m.Free, m.Least, int64(len(m.Tiers)))
		for _, tier := range m.Tiers {
			out += nums(tier.Upto, tier.Price)
		}
	}
	out += nums(int64(len(c.Credits)))
	for _, credit := range c.Credits {
		out += nums(int64(len(credit.Account))) + credit.Account + nums(credit.Micro)
	}
	return out
}

// keptCatalog is a copy that no call can reach.
func keptCatalog(c impl.Catalog) impl.Catalog {
	kept := impl.Catalog{Meters: slices.Clone(c.Meters), Credits: slices.Clone(c.Credits)}
	for i, m := range kept.Meters {
		kept.Meters[i].Tiers = slices.Clone(m.Tiers)
	}
	return kept
}

// checkRightCatalog asks all calls that take a Catalog, of one that is right: promise 10.
func checkRightCatalog(t *testing.T, what string, c impl.Catalog) {
	t.Helper()
	kept := keptCatalog(c)
	is(t, what+" is right", impl.CatalogRight(c), true)
	text := impl.CatalogBytes(c)
	is(t, what+": its bytes", text, catalogBytes(kept))
	back := impl.CatalogRead(text)
	is(t, what+" back", back, impl.CatalogOut{Catalog: kept})
	is(t, what+": the bytes of what came back", impl.CatalogBytes(back.Catalog), text)
	for _, m := range kept.Meters {
		is(t, what+": its meter "+m.Name, impl.MeterOf(c, m.Name), m)
	}
	for _, credit := range kept.Credits {
		is(t, what+": its credit "+credit.Account, impl.CreditOf(c, credit.Account), credit.Micro)
	}
	is(t, what+" is left as it was", c, kept)
}

// checkWrongCatalog asks all calls that take a Catalog, of one that is not right.
func checkWrongCatalog(t *testing.T, what string, c impl.Catalog) {
	t.Helper()
	kept := keptCatalog(c)
	is(t, what+" is not right", impl.CatalogRight(c), false)
	is(t, what+" has no bytes", impl.CatalogBytes(c), "")
	checkNoCatalog(t, what+" read", catalogBytes(kept))
	for _, m := range kept.Meters {
		is(t, what+": no meter "+told(m.Name), impl.MeterOf(c, m.Name), impl.Meter{})
	}
	for _, credit := range kept.Credits {
		is(t, what+": no credit "+told(credit.Account), impl.CreditOf(c, credit.Account), int64(0))
	}
	is(t, what+" is left as it was", c, kept)
}

func checkCatalog(t *testing.T, what string, c impl.Catalog, right bool) {
	t.Helper()
	if right {
		checkRightCatalog(t, what, c)
	} else {
		checkWrongCatalog(t, what, c)
	}
}

// checkNoCatalog asks CatalogRead of bytes that no right Catalog has: none may stand beside the code.
func checkNoCatalog(t *testing.T, what string, text string) {
	t.Helper()
	code := int64(impl.ErrSyntax)
	if len(text) > impl.MaxBytes {
		code = impl.ErrSize
	}
	is(t, what, impl.CatalogRead(text), impl.CatalogOut{Code: code})
}

// checkMeter asks of a Meter, alone, and ahead of and behind others in a Catalog.
func checkMeter(t *testing.T, m impl.Meter, right bool) {
	t.Helper()
	what := told(m)
	kept := m
	kept.Tiers = slices.Clone(m.Tiers)
	is(t, what, impl.MeterRight(m), right)
	is(t, what+" is left as it was", m, kept)
	first, last := namedMeters("a")[0], namedMeters("zz")[0]
	checkCatalog(t, what+" alone", impl.Catalog{Meters: []impl.Meter{m}, Credits: namedCredits("ann")}, right)
	checkCatalog(t, what+" first", impl.Catalog{Meters: []impl.Meter{m, last}}, right)
	checkCatalog(t, what+" last", impl.Catalog{Meters: []impl.Meter{first, m}}, right)
	checkCatalog(t, what+" between", impl.Catalog{Meters: []impl.Meter{first, m, last}}, right)
}

// wrongNames are none, each for a reason of its own.
func wrongNames() []string {
	return []string{"", longText(21), longText(impl.MaxBytes + 1), "0a", "9", "_", "_a", "A", "Cpu", "cPu", "c-u", "c u", " cpu", "cpu ", "cp\x00", "cp\xff", "é", "cpé"}
}

func TestCatalogWords(t *testing.T) {
	is(t, "kinds", []int64{impl.AgSum, impl.AgMax, impl.AgTags, impl.AgPeak}, []int64{1, 2, 3, 4})
	is(t, "limits", []int64{impl.MaxMeters, impl.MaxTiers}, []int64{6, 5})
}

// TestCatalogByHand writes each byte out.
func TestCatalogByHand(t *testing.T) {
	cpu := impl.Meter{Name: "cpu", Agg: impl.AgSum, Free: 10, Tiers: []impl.Tier{{Upto: 100, Price: 50}, {Upto: lastUpto, Price: 20}}}
	disk := impl.Meter{Name: "disk", Agg: impl.AgPeak, Whole: true, Least: 500, Tiers: []impl.Tier{{Upto: lastUpto, Price: 1000000}}}
	c := impl.Catalog{Meters: []impl.Meter{cpu, disk}, Credits: []impl.Credit{{Account: "ann", Micro: 3000}, {Account: "b"}}}
	end := "\x80\xc0\xa8\xca\x9a\x3a"
	first := "\x06cpu\x02\x00\x14\x00\x04\xc8\x01\x64" + end + "\x28"
	second := "\x08disk\x08\x02\x00\xe8\x07\x02" + end + "\x80\x89\x7a"
	text := "\x04" + first + second + "\x04\x06ann\xf0\x2e\x02b\x00"
	is(t, "its bytes", impl.CatalogBytes(c), text)
	is(t, "back", impl.CatalogRead(text), impl.CatalogOut{Catalog: c})
	is(t, "cpu", impl.MeterOf(c, "cpu"), cpu)
	is(t, "disk", impl.MeterOf(c, "disk"), disk)
	is(t, "credits", []int64{impl.CreditOf(c, "ann"), impl.CreditOf(c, "b"), impl.CreditOf(c, "cpu")}, []int64{3000, 0, 0})
	is(t, "the zero Meter", impl.MeterRight(impl.Meter{}), false)
}

func TestCatalogOfNone(t *testing.T) {
	checkRightCatalog(t, "none", impl.Catalog{})
	is(t, "bytes of none", impl.CatalogBytes(impl.Catalog{}), "\x00\x00")
	empty := impl.Catalog{Meters: []impl.Meter{}, Credits: []impl.Credit{}}
	is(t, "empty lists are right", impl.CatalogRight(empty), true)
	is(t, "bytes of empty lists", impl.CatalogBytes(empty), "\x00\x00")
	is(t, "no meter", impl.MeterOf(empty, "cpu"), impl.Meter{})
	is(t, "no credit", impl.CreditOf(empty, "ann"), int64(0))
}

func TestMeterNames(t *testing.T) {
	for _, name := range wrongNames() {
		m := someMeter()
		m.Name = name
		checkMeter(t, m, false)
	}
	for _, name := range []string{"b", "z", "z9_z", "b0", "b_", longText(20)} {
		m := someMeter()
		m.Name = name
		checkMeter(t, m, true)
	}
}

func TestMeterNumbers(t *testing.T) {
	for _, n := range append(farNumbers(), 0, 1, 2, 3, 4, 5, 6) {
		m := someMeter()
		m.Agg = n
		checkMeter(t, m, inside(n, 1, 4))
	}
	for _, n := range append(farNumbers(), 0, 1, 999999999, 1000000000, 1000000001, lastUpto) {
		m := someMeter()
		m.Free = n
		checkMeter(t, m, inside(n, 0, 1000000000))
	}
	for _, n := range append(farNumbers(), 0, 1, 1000000001, lastUpto-1, lastUpto, lastUpto+1) {
		m := someMeter()
		m.Least = n
		checkMeter(t, m, inside(n, 0, lastUpto))
	}
	for _, whole := range []bool{true, false} {
		m := someMeter()
		m.Whole = whole
		checkMeter(t, m, true)
	}
}

func TestMeterTierCounts(t *testing.T) {
	for _, count := range []int{0, 1, 2, 3, 4, 5, 6, 7, impl.MaxList, impl.MaxList + 1} {
		m := someMeter()
		m.Tiers = someTiers(count)
		checkMeter(t, m, count >= 1 && count <= impl.MaxTiers)
	}
	m := someMeter()
	m.Tiers = []impl.Tier{}
	is(t, "an empty list of Tiers", impl.MeterRight(m), false)
}

// uptoTiers have these Upto.
func uptoTiers(uptos ...int64) []impl.Tier {
	var out []impl.Tier
	for _, upto := range uptos {
		out = append(out, impl.Tier{Upto: upto, Price: 1})
	}
	return out
}

func TestMeterTiersRise(t *testing.T) {
	right := [][]int64{{lastUpto}, {1, lastUpto}, {lastUpto - 1, lastUpto}, {1, 2, 3, 4, lastUpto}, {1, 2, lastUpto - 2, lastUpto - 1, lastUpto}}
	wrong := [][]int64{
		{0}, {1}, {-1}, {lastUpto - 1}, {lastUpto + 1}, {math.MaxInt64}, {math.MinInt64},
		{0, lastUpto}, {-1, lastUpto}, {math.MinInt64, lastUpto}, {math.MinInt64 + 1, lastUpto}, {0, 1, lastUpto}, {-1, 0, lastUpto},
		{100, 100, lastUpto}, {100, 99, lastUpto}, {1, 1, lastUpto}, {1, 100, 100, lastUpto}, {1, 2, 3, 2, lastUpto}, {1, 0, lastUpto}, {5, -5, lastUpto},
		{lastUpto, lastUpto}, {lastUpto, 1}, {lastUpto + 1, lastUpto}, {math.MaxInt64, lastUpto},
		{1, lastUpto, lastUpto}, {1, lastUpto, lastUpto + 1}, {lastUpto, lastUpto + 1}, {lastUpto, math.MaxInt64}, {1, 2, lastUpto - 1}, {1, lastUpto, 2},
	}
	for _, uptos := range right {
		m := someMeter()
		m.Tiers = uptoTiers(uptos...)
		checkMeter(t, m, true)
	}
	for _, uptos := range wrong {
		m := someMeter()
		m.Tiers = uptoTiers(uptos...)
		checkMeter(t, m, false)
	}
}

func TestMeterPrices(t *testing.T) {
	for place := range impl.MaxTiers {
		for _, price := range append(farNumbers(), 0, 1, 999999, 1000000, 1000001) {
			m := someMeter()
			m.Tiers = someTiers(impl.MaxTiers)
			m.Tiers[place].Price = price
			checkMeter(t, m, inside(price, 0, 1000000))
		}
	}
}

func TestCatalogMeterCounts(t *testing.T) {
	for count := range 8 {
		names := append(sevenNames(), "zz")[:count]
		checkCatalog(t, fmt.Sprint(count, " meters"), impl.Catalog{Meters: namedMeters(names...)}, count <= impl.MaxMeters)
		c := impl.Catalog{Meters: namedMeters(names...), Credits: namedCredits("ann", "bob")}
		checkCatalog(t, fmt.Sprint(count, " meters with credits"), c, count <= impl.MaxMeters)
	}
	many := slices.Repeat([]impl.Meter{someMeter()}, impl.MaxList+1)
	is(t, "very many meters", impl.CatalogRight(impl.Catalog{Meters: many}), false)
	is(t, "a meter of very many", impl.MeterOf(impl.Catalog{Meters: many}, "cpu"), impl.Meter{})
}

func TestCatalogMetersRise(t *testing.T) {
	wrong := [][]string{
		{"a", "a"}, {"b", "a"}, {"aa", "a"}, {"ab", "aa"}, {"a_", "a0"}, {"aa", "a_"}, {"ba", "ab"},
		{"a", "b", "b"}, {"a", "a", "b"}, {"a", "c", "b"}, {"b", "a", "c"}, {"a", "b", "a"}, {"c", "a", "b"}, {"a", "c", "b", "c"},
		{"a", "b", "c", "d", "e", "e"}, {"a", "b", "c", "d", "f", "e"}, {"f", "e", "d", "c", "b", "a"},
	}
	for _, names := range wrong {
		checkWrongCatalog(t, fmt.Sprint("meters ", names), impl.Catalog{Meters: namedMeters(names...), Credits: namedCredits("ann")})
		checkWrongCatalog(t, fmt.Sprint("credits ", names), impl.Catalog{Meters: namedMeters("cpu"), Credits: namedCredits(names...)})
	}
	right := [][]string{{"a", "b"}, {"a", "aa"}, {"a0", "a_"}, {"a_", "aa"}, {"a", "a0", "a_", "aa", "ab", "b"}, {"cpu", "cpu1", "cpu10", "cpu2"}}
	for _, names := range right {
		checkRightCatalog(t, fmt.Sprint("names ", names), impl.Catalog{Meters: namedMeters(names...), Credits: namedCredits(names...)})
	}
}

// TestCatalogOfOneWrongMeter lays one that is not right in each place of a full catalog.
func TestCatalogOfOneWrongMeter(t *testing.T) {
	turns := []func(m *impl.Meter){
		func(m *impl.Meter) { m.Name += "A" },
		func(m *impl.Meter) { m.Agg = 5 },
		func(m *impl.Meter) { m.Free = -1 },
		func(m *impl.Meter) { m.Least = lastUpto + 1 },
		func(m *impl.Meter) { m.Tiers = nil },
	}
	for place := range impl.MaxMeters {
		for i, turn := range turns {
			c := fullCatalog()
			turn(&c.Meters[place])
			checkWrongCatalog(t, fmt.Sprint("turn ", i, " at ", place), c)
		}
	}
}

func TestCatalogCreditCounts(t *testing.T) {
	for count := range 8 {
		c := impl.Catalog{Credits: namedCredits(append(sevenNames(), "zz")[:count]...)}
		checkCatalog(t, fmt.Sprint(count, " credits"), c, count <= 6)
		c.Meters = namedMeters("cpu", "disk")
		checkCatalog(t, fmt.Sprint(count, " credits with meters"), c, count <= 6)
	}
	many := slices.Repeat([]impl.Credit{{Account: "ann", Micro: 1}}, impl.MaxList+1)
	is(t, "very many credits", impl.CatalogRight(impl.Catalog{Credits: many}), false)
	is(t, "a credit of very many", impl.CreditOf(impl.Catalog{Credits: many}, "ann"), int64(0))
}

func TestCatalogCreditFields(t *testing.T) {
	for place := range 6 {
		for _, account := range wrongNames() {
			c := fullCatalog()
			c.Credits[place].Account = account
			checkWrongCatalog(t, fmt.Sprint("an account at ", place), c)
		}
		for _, micro := range append(farNumbers(), 0, 1, lastUpto-1, lastUpto, lastUpto+1) {
			c := fullCatalog()
			c.Credits[place].Micro = micro
			checkCatalog(t, fmt.Sprint("a micro of ", micro, " at ", place), c, inside(micro, 0, lastUpto))
		}
	}
	for _, account := range wrongNames() {
		checkWrongCatalog(t, "an account alone", impl.Catalog{Credits: []impl.Credit{{Account: account, Micro: 1}}})
	}
}

func TestCatalogAsksForWhatIsNotThere(t *testing.T) {
	names := append(wrongNames(), "net", "cp", "cpuu", "cpv", "aa1", "zz", "y")
	for _, c := range []impl.Catalog{{}, fullCatalog(), {Meters: namedMeters("cpu"), Credits: namedCredits("cpu")}} {
		for _, name := range names {
			is(t, "a meter of "+told(name), impl.MeterOf(c, name), impl.Meter{})
			is(t, "a credit of "+told(name), impl.CreditOf(c, name), int64(0))
		}
	}
	apart := impl.Catalog{Meters: namedMeters("cpu"), Credits: namedCredits("ann")}
	is(t, "an account is no meter", impl.MeterOf(apart, "ann"), impl.Meter{})
	is(t, "a meter is no account", impl.CreditOf(apart, "cpu"), int64(0))
}

// anyNames draws names that rise.
func anyNames(draws *rand.Rand, count int) []string {
	var out []string
	for len(out) < count {
		name := []byte{byte('a' + draws.Intn(3))}
		for range draws.Intn(20) {
			name = append(name, "ab09_z"[draws.Intn(6)])
		}
		if !slices.Contains(out, string(name)) {
			out = append(out, string(name))
		}
	}
	slices.Sort(out)
	return out
}

// anyTiers draws right ones.
func anyTiers(draws *rand.Rand) []impl.Tier {
	out := []impl.Tier{{Upto: lastUpto, Price: draws.Int63n(1000001)}}
	for len(out) <= draws.Intn(impl.MaxTiers) && out[0].Upto > 1 {
		ahead := impl.Tier{Upto: 1 + draws.Int63n(out[0].Upto-1), Price: draws.Int63n(1000001)}
		out = slices.Insert(out, 0, ahead)
	}
	return out
}

// anyCatalog draws a right one.
func anyCatalog(draws *rand.Rand) impl.Catalog {
	var c impl.Catalog
	for _, name := range anyNames(draws, draws.Intn(impl.MaxMeters+1)) {
		c.Meters = append(c.Meters, impl.Meter{
			Name: name, Agg: 1 + draws.Int63n(4), Whole: draws.Intn(2) == 1,
			Free: draws.Int63n(1000000001), Least: draws.Int63n(lastUpto + 1), Tiers: anyTiers(draws),
		})
	}
	for _, account := range anyNames(draws, draws.Intn(7)) {
		c.Credits = append(c.Credits, impl.Credit{Account: account, Micro: draws.Int63n(lastUpto + 1)})
	}
	return c
}

// greatCatalog has as many bytes as a Catalog may have.
func greatCatalog() impl.Catalog {
	var c impl.Catalog
	for i := range impl.MaxMeters {
		name := longText(19) + string(rune('a'+i))
		tiers := uptoTiers(lastUpto-4, lastUpto-3, lastUpto-2, lastUpto-1, lastUpto)
		for j := range tiers {
			tiers[j].Price = 1000000
		}
		c.Meters = append(c.Meters, impl.Meter{Name: name, Agg: impl.AgPeak, Whole: true, Free: 1000000000, Least: lastUpto, Tiers: tiers})
		c.Credits = append(c.Credits, impl.Credit{Account: name, Micro: lastUpto})
	}
	return c
}

// TestCatalogsComeBack is promise 10 of drawn catalogs.
func TestCatalogsComeBack(t *testing.T) {
	draws := sameDraws()
	for i := range 1000 {
		checkRightCatalog(t, fmt.Sprint("catalog ", i), anyCatalog(draws))
	}
	checkRightCatalog(t, "the fullest", fullCatalog())
	checkRightCatalog(t, "the greatest", greatCatalog())
}

func TestCatalogReadEndsTooEarly(t *testing.T) {
	draws := sameDraws()
	for _, c := range []impl.Catalog{{}, {Meters: namedMeters("cpu")}, {Credits: namedCredits("ann")}, fullCatalog(), greatCatalog(), anyCatalog(draws)} {
		text := impl.CatalogBytes(c)
		for end := range len(text) {
			checkNoCatalog(t, fmt.Sprint("the first ", end, " bytes"), text[:end])
		}
		for b := range 256 {
			checkNoCatalog(t, "one byte more behind", text+string([]byte{byte(b)}))
		}
		checkNoCatalog(t, "twice", text+text)
	}
	checkNoCatalog(t, "the empty text", "")
	checkNoCatalog(t, "a letter", "x")
}

// catalogParts are the bytes of a Catalog of one Meter and one Credit, number by number and text by text.
func catalogParts() []string {
	return []string{"\x02", "\x06", "cpu", "\x02", "\x02", "\x14", "\x0e", "\x04", "\x0a", "\x06", impl.PutNum(lastUpto), "\x04", "\x02", "\x06", "ann", "\x12"}
}

// withPart is the text of catalogParts with one of them turned.
func withPart(place int, part string) string {
	parts := catalogParts()
	parts[place] = part
	return strings.Join(parts, "")
}

func TestCatalogReadParts(t *testing.T) {
	m := impl.Meter{Name: "cpu", Agg: 1, Whole: true, Free: 10, Least: 7, Tiers: []impl.Tier{{Upto: 5, Price: 3}, {Upto: lastUpto, Price: 2}}}
	want := impl.Catalog{Meters: []impl.Meter{m}, Credits: []impl.Credit{{Account: "ann", Micro: 9}}}
	is(t, "as it should be", impl.CatalogRead(strings.Join(catalogParts(), "")), impl.CatalogOut{Catalog: want})
	m.Whole = false
	want.Meters = []impl.Meter{m}
	is(t, "a Whole of 0", impl.CatalogRead(withPart(4, "\x00")), impl.CatalogOut{Catalog: want})
	for _, n := range append(farNumbers(), -2, 2, 3, 64, 128, 256, 1<<32, 1<<32+1) {
		checkNoCatalog(t, fmt.Sprint("a Whole of ", n), withPart(4, impl.PutNum(n)))
	}
	counts := map[string]int{"Meters": 0, "Tiers": 7, "Credits": 12}
	for what, place := range counts {
		right := map[string]int64{"Meters": 1, "Tiers": 2, "Credits": 1}[what]
		for _, n := range append(farNumbers(), -2, 0, 1, 2, 3, 5, 6, 7, 400, 1<<32, 1<<32+1) {
			if n != right {
				checkNoCatalog(t, fmt.Sprint(n, " ", what), withPart(place, impl.PutNum(n)))
			}
		}
	}
}

// TestCatalogReadLimits lays one more than may be, each of them right, and counts below 0 with nothing behind.
func TestCatalogReadLimits(t *testing.T) {
	seven := sevenNames()
	checkNoCatalog(t, "7 meters", catalogBytes(impl.Catalog{Meters: namedMeters(seven...)}))
	checkNoCatalog(t, "7 credits", catalogBytes(impl.Catalog{Credits: namedCredits(seven...)}))
	m := someMeter()
	m.Tiers = someTiers(6)
	checkNoCatalog(t, "6 tiers", catalogBytes(impl.Catalog{Meters: []impl.Meter{m}}))
	for _, n := range farNumbers() {
		checkNoCatalog(t, fmt.Sprint(n, " meters alone"), nums(n))
		checkNoCatalog(t, fmt.Sprint(n, " meters and no credit"), nums(n, 0))
		checkNoCatalog(t, fmt.Sprint("no meter and credits ", n), nums(0, n))
		checkNoCatalog(t, fmt.Sprint(n, " tiers"), "\x02\x06cpu"+nums(1, 0, 0, 0, n, 0))
	}
}

// TestCatalogReadNeedlessBytes writes each number of a catalog with a byte more than it needs.
func TestCatalogReadNeedlessBytes(t *testing.T) {
	checkNoCatalog(t, "no meter", "\x80\x00\x00")
	checkNoCatalog(t, "no credit", "\x00\x80\x00")
	for place, part := range catalogParts() {
		if part == "cpu" || part == "ann" {
			continue
		}
		for _, more := range []string{"\x00", "\x80\x00"} {
			longer := part[:len(part)-1] + string([]byte{part[len(part)-1] | 128}) + more
			checkNoCatalog(t, fmt.Sprint("a needless byte at ", place), withPart(place, longer))
		}
	}
}

// TestCatalogReadTakesOnlyWhatCatalogBytesGives turns bytes of a catalog: what is still read must have just these bytes.
func TestCatalogReadTakesOnlyWhatCatalogBytesGives(t *testing.T) {
	draws := sameDraws()
	text := impl.CatalogBytes(fullCatalog())
	for place := range len(text) {
		for b := range 256 {
			turned := text[:place] + string([]byte{byte(b)}) + text[place+1:]
			back := impl.CatalogRead(turned)
			if back.Code == impl.OK {
				is(t, "what was read is right", impl.CatalogRight(back.Catalog), true)
				is(t, "bytes of what was read", catalogBytes(back.Catalog), turned)
			} else {
				is(t, "what was not read", back, impl.CatalogOut{Code: impl.ErrSyntax})
			}
		}
	}
	for range 2000 {
		checkNoCatalog(t, "any bytes", "\x04"+anyText(draws, draws.Intn(60)))
	}
}

func TestCatalogReadTooLong(t *testing.T) {
	text := impl.CatalogBytes(fullCatalog())
	checkNoCatalog(t, "MaxBytes bytes", text+longText(impl.MaxBytes-len(text)))
	is(t, "one byte beyond MaxBytes", impl.CatalogRead(text+longText(impl.MaxBytes+1-len(text))), impl.CatalogOut{Code: impl.ErrSize})
	is(t, "twice MaxBytes", impl.CatalogRead(longText(2*impl.MaxBytes)), impl.CatalogOut{Code: impl.ErrSize})
	is(t, "no catalog at all, and too long", impl.CatalogRead(strings.Repeat("\x00", impl.MaxBytes+1)), impl.CatalogOut{Code: impl.ErrSize})
}

// spoilCatalog turns all that a Catalog's lists hold, and what room they have behind their end.
func spoilCatalog(c impl.Catalog) {
	for i, m := range c.Meters {
		spoilMeter(m)
		c.Meters[i] = impl.Meter{Name: "spoiled"}
	}
	for i := range c.Credits {
		c.Credits[i] = impl.Credit{Account: "spoiled", Micro: -1}
	}
	_ = append(c.Meters, impl.Meter{Name: "spoiled"})
	_ = append(c.Credits, impl.Credit{Account: "spoiled"})
}

// spoilMeter turns a Meter's Tiers, and what room they have behind their end.
func spoilMeter(m impl.Meter) {
	_ = append(m.Tiers, impl.Tier{Upto: -1, Price: -1})
	for j := range m.Tiers {
		m.Tiers[j] = impl.Tier{Upto: -1, Price: -1}
	}
}

// TestCatalogSharesNothing turns what was answered, and what was handed in: neither may be seen elsewhere.
func TestCatalogSharesNothing(t *testing.T) {
	c := fullCatalog()
	text := impl.CatalogBytes(c)
	for _, m := range fullCatalog().Meters {
		first, second := impl.MeterOf(c, m.Name), impl.MeterOf(c, m.Name)
		spoilMeter(first)
		is(t, "a meter handed out beside it", second, m)
		is(t, "the catalog it is of", c, fullCatalog())
	}
	kept := impl.MeterOf(c, "b")
	first, second := impl.CatalogRead(text).Catalog, impl.CatalogRead(text).Catalog
	spoilCatalog(first)
	spoilCatalog(c)
	is(t, "read beside it", second, fullCatalog())
	is(t, "a meter of a catalog that was turned", kept, fullCatalog().Meters[4])
	is(t, "read again", impl.CatalogRead(text).Catalog, fullCatalog())
}

// TestCatalogListsApart spoils the Tiers of one Meter of an answer: those of the others must stay.
func TestCatalogListsApart(t *testing.T) {
	text := impl.CatalogBytes(fullCatalog())
	for place := range impl.MaxMeters {
		back := impl.CatalogRead(text).Catalog
		spoilMeter(back.Meters[place])
		want := fullCatalog()
		want.Meters[place].Tiers = back.Meters[place].Tiers
		is(t, fmt.Sprint("all but the tiers of ", place), back, want)
	}
}

// sameBytes tells whether two texts begin at one place of memory.
func sameBytes(a string, b string) bool {
	return unsafe.StringData(a) == unsafe.StringData(b)
}

func TestCatalogTextsAreNew(t *testing.T) {
	c := impl.Catalog{Meters: namedMeters("cpu_of_all"), Credits: namedCredits("ann_of_all")}
	is(t, "the name of a meter", sameBytes(impl.MeterOf(c, "cpu_of_all").Name, c.Meters[0].Name), false)
	text := impl.CatalogBytes(c)
	back := impl.CatalogRead(text).Catalog
	is(t, "the name of a meter that was read", sameBytes(back.Meters[0].Name, text[2:]), false)
	is(t, "a name of one that was made", sameBytes(impl.EngineNew(c, []string{"east"}).Engine.Catalog.Meters[0].Name, c.Meters[0].Name), false)
	is(t, "an account of one that was made", sameBytes(impl.EngineNew(c, []string{"east"}).Engine.Catalog.Credits[0].Account, c.Credits[0].Account), false)
}
