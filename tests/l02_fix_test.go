package tests

import (
	"fmt"
	"math"
	"math/big"
	"math/rand"
	"testing"

	"loop.example/g00562/impl"
)

const most = int64(impl.Most)

// edgeNumbers are the limits of a number, one beyond each, and what lies around 0.
func edgeNumbers() []int64 {
	return []int64{math.MinInt64, math.MinInt64 + 1, -most - 1, -most, -most + 1, -2, -1, 0, 1, 2, most - 1, most, most + 1, math.MaxInt64 - 1, math.MaxInt64}
}

// edgeModes are the ways to round, one beyond on each side, and the ends of int64.
func edgeModes() []int64 {
	return []int64{math.MinInt64, -1, impl.RdDown, impl.RdUp, impl.RdNear, 3, math.MaxInt64}
}

// someParts has the edges of what may be a part, and numbers between that divide each other or do not.
func someParts() []int64 {
	return []int64{math.MinInt64, -most - 1, -most, -1, 0, 1, 2, 3, 7, 100, 1000, 31622776, 31622777, 4294967296, most / 3, most/2 + 1, most - 1, most, most + 1, math.MaxInt64}
}

func inside(n int64, low int64, high int64) bool {
	return n >= low && n <= high
}

func code(c int64) impl.NumOut {
	return impl.NumOut{Code: c}
}

func number(n int64) impl.NumOut {
	return impl.NumOut{N: n}
}

// fits tells a number of any size as the document asks: beyond Most on either side it is ErrOver.
func fits(n *big.Int) impl.NumOut {
	if n.CmpAbs(big.NewInt(most)) > 0 {
		return code(impl.ErrOver)
	}
	return number(n.Int64())
}

// bigRounded divides numbers of any size: down is the floor, up is minus the floor of minus it, near is the floor of it and a half.
func bigRounded(a *big.Int, b int64, mode int64) *big.Int {
	divisor := big.NewInt(b) // above 0: Div is then the floor
	switch mode {
	case impl.RdUp:
		down := new(big.Int).Div(new(big.Int).Neg(a), divisor)
		return down.Neg(down)
	case impl.RdNear:
		twice := new(big.Int).Lsh(a, 1)
		twice.Add(twice, divisor)
		return twice.Div(twice, new(big.Int).Lsh(divisor, 1))
	}
	return new(big.Int).Div(a, divisor)
}

func bigProduct(a int64, b int64) *big.Int {
	return new(big.Int).Mul(big.NewInt(a), big.NewInt(b))
}

func wantSum(a int64, b int64) impl.NumOut {
	if !inside(a, -most, most) || !inside(b, -most, most) {
		return code(impl.ErrForm)
	}
	return fits(new(big.Int).Add(big.NewInt(a), big.NewInt(b)))
}

func wantDifference(a int64, b int64) impl.NumOut {
	if !inside(a, -most, most) || !inside(b, -most, most) {
		return code(impl.ErrForm)
	}
	return fits(new(big.Int).Sub(big.NewInt(a), big.NewInt(b)))
}

func wantProduct(a int64, b int64) impl.NumOut {
	if !inside(a, -most, most) || !inside(b, -most, most) {
		return code(impl.ErrForm)
	}
	return fits(bigProduct(a, b))
}

func wantParts(a int64, b int64, mode int64) impl.NumOut {
	if !inside(a, -most, most) || !inside(b, 1, most) || !inside(mode, 0, 2) {
		return code(impl.ErrForm)
	}
	return fits(bigRounded(big.NewInt(a), b, mode))
}

func wantTimesParts(a int64, b int64, c int64, mode int64) impl.NumOut {
	if !inside(a, 0, most) || !inside(b, 0, most) || !inside(c, 1, most) || !inside(mode, 0, 2) {
		return code(impl.ErrForm)
	}
	return fits(bigRounded(bigProduct(a, b), c, mode))
}

func wantPercent(n int64, percent int64) impl.NumOut {
	if !inside(n, 0, most) || !inside(percent, 0, 1000) {
		return code(impl.ErrForm)
	}
	return fits(bigRounded(bigProduct(n, percent), 100, impl.RdNear))
}

func wantRatio(a int64, b int64, c int64, d int64) int64 {
	if !inside(a, 0, most) || !inside(b, 1, most) || !inside(c, 0, most) || !inside(d, 1, most) {
		return 0
	}
	return int64(big.NewRat(a, b).Cmp(big.NewRat(c, d)))
}

func checkPair(t *testing.T, a int64, b int64) {
	t.Helper()
	is(t, fmt.Sprint("Plus ", a, b), impl.Plus(a, b), wantSum(a, b))
	is(t, fmt.Sprint("Minus ", a, b), impl.Minus(a, b), wantDifference(a, b))
	is(t, fmt.Sprint("Times ", a, b), impl.Times(a, b), wantProduct(a, b))
}

// anyNumber draws a number of any size, from -Most to Most: as many small ones as great ones.
func anyNumber(draws *rand.Rand) int64 {
	n := anySize(draws)
	if draws.Intn(2) == 0 {
		return -n
	}
	return n
}

// anySize draws a number from 1 to Most.
func anySize(draws *rand.Rand) int64 {
	top := int64(10)
	for range draws.Intn(15) {
		top *= 10
	}
	return 1 + draws.Int63n(top)
}

func TestFixWords(t *testing.T) {
	is(t, "constants", []int64{impl.Most, impl.RdDown, impl.RdUp, impl.RdNear}, []int64{1000000000000000, 0, 1, 2})
}

func TestFixSumsAtTheEdges(t *testing.T) {
	for _, a := range edgeNumbers() {
		for _, b := range edgeNumbers() {
			checkPair(t, a, b)
		}
	}
}

func TestFixSumsJustFit(t *testing.T) {
	is(t, "plus to Most", impl.Plus(most-1, 1), number(most))
	is(t, "plus beyond Most", impl.Plus(most, 1), code(impl.ErrOver))
	is(t, "plus to -Most", impl.Plus(1-most, -1), number(-most))
	is(t, "plus beyond -Most", impl.Plus(-most, -1), code(impl.ErrOver))
	is(t, "minus to Most", impl.Minus(most-1, -1), number(most))
	is(t, "minus beyond Most", impl.Minus(most, -1), code(impl.ErrOver))
	is(t, "minus to -Most", impl.Minus(1-most, 1), number(-most))
	is(t, "minus beyond -Most", impl.Minus(-most, 1), code(impl.ErrOver))
	is(t, "less than nothing", impl.Minus(3, 5), number(-2))
}

func TestFixProductsJustFit(t *testing.T) {
	for _, f := range []int64{1, 2, 5, 8, 1000, 31622776, 31622777, most / 2, most} {
		fit := most / f
		for _, n := range []int64{fit - 1, fit, fit + 1} {
			checkPair(t, f, n)
			checkPair(t, -f, n)
			checkPair(t, f, -n)
			checkPair(t, -f, -n)
			checkPair(t, n, f)
		}
	}
	is(t, "times to Most", impl.Times(1000000, 1000000000), number(most))
	is(t, "times to -Most", impl.Times(-1000000, 1000000000), number(-most))
	is(t, "times beyond Most", impl.Times(37, 27027027027028), code(impl.ErrOver)) // 1000000000000036
	is(t, "times wraps round to 0", impl.Times(1<<32, 1<<32), code(impl.ErrOver))  // an int64 would tell 0
	is(t, "times 0", impl.Times(0, -most), number(0))
}

func TestFixFormAheadOfOver(t *testing.T) {
	is(t, "plus", impl.Plus(most+1, most), code(impl.ErrForm))
	is(t, "minus", impl.Minus(-most, most+1), code(impl.ErrForm))
	is(t, "times", impl.Times(most, most+1), code(impl.ErrForm))
	is(t, "times parts by its mode", impl.TimesParts(most, most, 1, 3), code(impl.ErrForm))
	is(t, "percent", impl.Percent(most, 1001), code(impl.ErrForm))
}

func TestFixDrawnSums(t *testing.T) {
	draws := sameDraws()
	for range 20000 {
		checkPair(t, anyNumber(draws), anyNumber(draws))
	}
}

// Promise 3, its first half.
func TestFixWhatIsAddedIsTakenAway(t *testing.T) {
	draws := sameDraws()
	fitted := 0
	for range 5000 {
		a, b := anyNumber(draws), anyNumber(draws)
		sum := impl.Plus(a, b)
		if sum.Code != impl.OK {
			continue
		}
		fitted++
		is(t, fmt.Sprint("back from the sum of ", a, b), impl.Minus(sum.N, b), number(a))
		is(t, fmt.Sprint("back the other way ", a, b), impl.Minus(sum.N, a), number(b))
	}
	if fitted < 1000 {
		t.Errorf("only %d sums were tried", fitted)
	}
}

// Promise 3, its second half.
func TestFixQuotientTimesDivisor(t *testing.T) {
	draws := sameDraws()
	for range 5000 {
		a, b := anyNumber(draws), anySize(draws)
		out := impl.Parts(a, b, impl.RdDown)
		rest := new(big.Int).Sub(big.NewInt(a), bigProduct(out.N, b))
		if out.Code != impl.OK || rest.Sign() < 0 || rest.Cmp(big.NewInt(b)) >= 0 {
			t.Errorf("%d in parts of %d: got %+v, what is left is %v", a, b, out, rest)
		}
	}
}

func TestFixPartsRounded(t *testing.T) {
	rows := []struct{ a, b, down, up, near int64 }{
		{7, 2, 3, 4, 4}, {-7, 2, -4, -3, -3}, {8, 2, 4, 4, 4}, {-8, 2, -4, -4, -4},
		{0, 5, 0, 0, 0}, {1, 3, 0, 1, 0}, {2, 3, 0, 1, 1}, {-1, 3, -1, 0, 0}, {-2, 3, -1, 0, -1},
		{1, 2, 0, 1, 1}, {-1, 2, -1, 0, 0}, {5, 10, 0, 1, 1}, {4, 10, 0, 1, 0}, {-5, 10, -1, 0, 0}, {-6, 10, -1, 0, -1},
		{most, 1, most, most, most}, {-most, 1, -most, -most, -most}, {most, most, 1, 1, 1}, {-most, most, -1, -1, -1},
		{1, most, 0, 1, 0}, {-1, most, -1, 0, 0}, {most / 2, most, 0, 1, 1}, {-most / 2, most, -1, 0, 0},
	}
	for _, r := range rows {
		what := fmt.Sprint("parts ", r.a, r.b)
		is(t, what+" down", impl.Parts(r.a, r.b, impl.RdDown), number(r.down))
		is(t, what+" up", impl.Parts(r.a, r.b, impl.RdUp), number(r.up))
		is(t, what+" near", impl.Parts(r.a, r.b, impl.RdNear), number(r.near))
	}
}

func TestFixPartsAtTheEdges(t *testing.T) {
	for _, a := range edgeNumbers() {
		for _, b := range edgeNumbers() {
			for _, mode := range edgeModes() {
				is(t, fmt.Sprint("Parts ", a, b, mode), impl.Parts(a, b, mode), wantParts(a, b, mode))
			}
		}
	}
	is(t, "by 0", impl.Parts(1, 0, impl.RdDown), code(impl.ErrForm))
	is(t, "by -1", impl.Parts(1, -1, impl.RdDown), code(impl.ErrForm))
	is(t, "mode -1", impl.Parts(1, 1, -1), code(impl.ErrForm))
	is(t, "mode 3", impl.Parts(1, 1, 3), code(impl.ErrForm))
}

func TestFixDrawnParts(t *testing.T) {
	draws := sameDraws()
	for range 10000 {
		a, b := anyNumber(draws), anySize(draws)
		for mode := range int64(3) {
			is(t, fmt.Sprint("Parts ", a, b, mode), impl.Parts(a, b, mode), wantParts(a, b, mode))
		}
	}
}

func TestFixTimesPartsAtTheEdges(t *testing.T) {
	for _, a := range someParts() {
		for _, b := range someParts() {
			for _, c := range someParts() {
				for _, mode := range edgeModes() {
					is(t, fmt.Sprint("TimesParts ", a, b, c, mode), impl.TimesParts(a, b, c, mode), wantTimesParts(a, b, c, mode))
				}
			}
		}
	}
}

func TestFixTimesPartsBesideMost(t *testing.T) {
	is(t, "the product is beyond int64", impl.TimesParts(most, most, most, impl.RdDown), number(most))
	is(t, "just Most", impl.TimesParts(most, 7, 7, impl.RdUp), number(most))
	is(t, "just beyond", impl.TimesParts(most, 8, 7, impl.RdDown), code(impl.ErrOver))
	is(t, "the quotient is beyond a word", impl.TimesParts(most, most, 1, impl.RdDown), code(impl.ErrOver))
	is(t, "the quotient wraps round", impl.TimesParts(1<<40, 1<<40, 1<<16, impl.RdDown), code(impl.ErrOver))          // a word would tell 0
	is(t, "the quotient is the greatest word", impl.TimesParts(1<<32-1, 1<<32+1, 1, impl.RdDown), code(impl.ErrOver)) // an int64 would tell -1
	// 666666666666667 times 3 is 2 Most and 1: in halves only the rounding is beyond.
	is(t, "Most and a half, down", impl.TimesParts(666666666666667, 3, 2, impl.RdDown), number(most))
	is(t, "Most and a half, up", impl.TimesParts(666666666666667, 3, 2, impl.RdUp), code(impl.ErrOver))
	is(t, "Most and a half, near", impl.TimesParts(666666666666667, 3, 2, impl.RdNear), code(impl.ErrOver))
	// 1000001 times 999999000001 is 1000 Most and 1: the nearer one is still Most.
	is(t, "Most and a bit, down", impl.TimesParts(1000001, 999999000001, 1000, impl.RdDown), number(most))
	is(t, "Most and a bit, near", impl.TimesParts(1000001, 999999000001, 1000, impl.RdNear), number(most))
	is(t, "Most and a bit, up", impl.TimesParts(1000001, 999999000001, 1000, impl.RdUp), code(impl.ErrOver))
	is(t, "a below 0", impl.TimesParts(-1, 1, 1, impl.RdDown), code(impl.ErrForm))
	is(t, "b below 0", impl.TimesParts(1, -1, 1, impl.RdDown), code(impl.ErrForm))
	is(t, "c 0", impl.TimesParts(1, 1, 0, impl.RdDown), code(impl.ErrForm))
	is(t, "c below 0", impl.TimesParts(1, 1, -1, impl.RdDown), code(impl.ErrForm))
	is(t, "none of it", impl.TimesParts(0, most, most, impl.RdUp), number(0))
}

// Promise 4.
func TestFixProductInParts(t *testing.T) {
	draws := sameDraws()
	fitted := 0
	for range 10000 {
		a, b, c := anySize(draws), anySize(draws), anySize(draws)
		whole := impl.Times(a, b)
		for mode := range int64(3) {
			got := impl.TimesParts(a, b, c, mode)
			is(t, fmt.Sprint("TimesParts ", a, b, c, mode), got, wantTimesParts(a, b, c, mode))
			if whole.Code == impl.OK {
				fitted++
				is(t, fmt.Sprint("product in parts ", a, b, c, mode), got, impl.Parts(whole.N, c, mode))
			}
		}
	}
	if fitted < 1000 {
		t.Errorf("only %d products were tried", fitted)
	}
}

func TestFixRoot(t *testing.T) {
	small := []int64{0, 1, 1, 1, 2, 2, 2, 2, 2, 3}
	for n, want := range small {
		is(t, fmt.Sprint("root ", n), impl.Root(int64(n)), number(want))
	}
	for _, n := range []int64{math.MinInt64, -most, -1, most + 1, 31622777 * 31622777, math.MaxInt64} {
		is(t, fmt.Sprint("root ", n), impl.Root(n), code(impl.ErrForm))
	}
	is(t, "root of Most", impl.Root(most), number(31622776))
	is(t, "root of Most less 1", impl.Root(most-1), number(31622776))
	for _, r := range []int64{2, 3, 10, 255, 256, 46340, 46341, 65536, 1000000, 15811388, 31622775, 31622776} {
		is(t, fmt.Sprint("one less than the square of ", r), impl.Root(r*r-1), number(r-1))
		is(t, fmt.Sprint("the square of ", r), impl.Root(r*r), number(r))
		is(t, fmt.Sprint("one more than the square of ", r), impl.Root(r*r+1), number(r))
	}
	draws := sameDraws()
	for range 2000 {
		n := anySize(draws)
		is(t, fmt.Sprint("root ", n), impl.Root(n), number(new(big.Int).Sqrt(big.NewInt(n)).Int64()))
	}
}

func TestFixPercent(t *testing.T) {
	for _, n := range append(edgeNumbers(), 49, 50, 51, 99, 100, 149, 150, most/10, most/10+1) {
		for _, p := range append(edgeNumbers(), 25, 50, 99, 100, 101, 999, 1000, 1001) {
			is(t, fmt.Sprint("Percent ", n, p), impl.Percent(n, p), wantPercent(n, p))
		}
	}
	is(t, "a half goes up", impl.Percent(50, 25), number(13))
	is(t, "less than a half goes down", impl.Percent(49, 25), number(12))
	is(t, "none", impl.Percent(most, 0), number(0))
	is(t, "all", impl.Percent(most, 100), number(most))
	is(t, "ten times", impl.Percent(most/10, 1000), number(most))
	is(t, "ten times, beyond", impl.Percent(most/10+1, 1000), code(impl.ErrOver))
	is(t, "-1", impl.Percent(1, -1), code(impl.ErrForm))
	is(t, "1001", impl.Percent(1, 1001), code(impl.ErrForm))
	is(t, "n below 0", impl.Percent(-1, 100), code(impl.ErrForm))
	is(t, "n beyond Most", impl.Percent(most+1, 100), code(impl.ErrForm))
}

func TestFixClamp(t *testing.T) {
	rows := []struct{ n, low, high, want int64 }{
		{-3, -2, 5, -2}, {-2, -2, 5, -2}, {-1, -2, 5, -1}, {4, -2, 5, 4}, {5, -2, 5, 5}, {6, -2, 5, 5},
		{7, 7, 7, 7}, {6, 7, 7, 7}, {8, 7, 7, 7},
		{3, 5, 1, 5}, {5, 5, 1, 1}, {9, 5, 1, 1}, {0, 5, 1, 5}, {1, 5, 1, 5}, // low above high: low is asked for first
		{-most, -most, most, -most}, {most, -most, most, most},
		{most + 1, -most, most, most}, {-most - 1, -most, most, -most},
		{math.MaxInt64, 0, 9, 9}, {math.MinInt64, 0, 9, 0},
		{3, math.MinInt64, math.MaxInt64, 3}, {3, math.MaxInt64, math.MinInt64, math.MaxInt64},
	}
	for _, r := range rows {
		is(t, fmt.Sprintf("clamp %+v", r), impl.Clamp(r.n, r.low, r.high), r.want)
	}
}

func TestFixRatioAtTheEdges(t *testing.T) {
	for _, a := range someParts() {
		for _, b := range someParts() {
			for _, c := range someParts() {
				for _, d := range someParts() {
					if got, want := impl.Ratio(a, b, c, d), wantRatio(a, b, c, d); got != want {
						t.Errorf("Ratio %d %d %d %d: got %d, want %d", a, b, c, d, got, want)
					}
				}
			}
		}
	}
}

func TestFixRatioOutOfLimits(t *testing.T) {
	is(t, "as it should be", impl.Ratio(1, 2, 3, 4), int64(-1))
	for _, out := range []int64{math.MinInt64, -most, -1, most + 1, math.MaxInt64} {
		is(t, fmt.Sprint("a ", out), impl.Ratio(out, 2, 3, 4), int64(0))
		is(t, fmt.Sprint("b ", out), impl.Ratio(1, out, 3, 4), int64(0))
		is(t, fmt.Sprint("c ", out), impl.Ratio(1, 2, out, 4), int64(0))
		is(t, fmt.Sprint("d ", out), impl.Ratio(1, 2, 3, out), int64(0))
	}
	is(t, "b 0", impl.Ratio(1, 0, 3, 4), int64(0))
	is(t, "d 0", impl.Ratio(1, 2, 3, 0), int64(0))
	is(t, "a 0", impl.Ratio(0, 2, 3, 4), int64(-1))
	is(t, "c 0", impl.Ratio(1, 2, 0, 4), int64(1))
	is(t, "both 0", impl.Ratio(0, 2, 0, 4), int64(0))
}

// Promise 5.
func TestFixRatioOfMultiples(t *testing.T) {
	draws := sameDraws()
	for range 5000 {
		a, b := draws.Int63n(1000), 1+draws.Int63n(1000)
		c, d := draws.Int63n(1000), 1+draws.Int63n(1000)
		by := 1 + draws.Int63n(most/1000)
		want := wantRatio(a, b, c, d)
		is(t, fmt.Sprint("ratio ", a, b, c, d), impl.Ratio(a, b, c, d), want)
		is(t, fmt.Sprint("first times ", by, a, b, c, d), impl.Ratio(a*by, b*by, c, d), want)
		is(t, fmt.Sprint("second times ", by, a, b, c, d), impl.Ratio(a, b, c*by, d*by), want)
		is(t, fmt.Sprint("turned round ", by, a, b, c, d), impl.Ratio(c*by, d*by, a, b), -want)
		is(t, fmt.Sprint("the same ", by, a, b), impl.Ratio(a, b, a*by, b*by), int64(0))
	}
	is(t, "as near as may be", impl.Ratio(most-1, most, most-2, most-1), int64(1))
	is(t, "as near as may be, turned round", impl.Ratio(most-2, most-1, most-1, most), int64(-1))
}
