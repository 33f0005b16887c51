package tests

import (
	"encoding/binary"
	"hash/crc32"
	"math"
	"strconv"
	"strings"
	"testing"

	"loop.example/g00562/impl"
)

func TestPutNumBytes(t *testing.T) {
	cases := []struct {
		n    int64
		want string
	}{
		{0, "\x00"},
		{-1, "\x01"},
		{1, "\x02"},
		{63, "\x7e"},
		{-64, "\x7f"},
		{64, "\x80\x01"},
		{-65, "\x81\x01"},
		{8000, "\x80\x7d"},
		{8191, "\xfe\x7f"},
		{-8192, "\xff\x7f"},
		{8192, "\x80\x80\x01"},
		{math.MaxInt64, "\xfe\xff\xff\xff\xff\xff\xff\xff\xff\x01"},
		{math.MinInt64, "\xff\xff\xff\xff\xff\xff\xff\xff\xff\x01"},
	}
	for _, c := range cases {
		is(t, "PutNum of "+strconv.FormatInt(c.n, 10), impl.PutNum(c.n), c.want)
	}
}

// someNumbers has numbers at which a byte more is needed, on both sides of each, and draws of every size.
func someNumbers() []int64 {
	out := []int64{0, -1, 63, 64, -64, -65, math.MinInt64, math.MinInt64 + 1, math.MaxInt64, math.MaxInt64 - 1}
	for bit := 0; bit < 63; bit++ {
		edge := int64(1) << bit
		out = append(out, edge-1, edge, edge+1, -edge-1, -edge, -edge+1)
	}
	draws := sameDraws()
	for i := range 4000 {
		out = append(out, int64(draws.Uint64())>>(i%64))
	}
	return out
}

func TestNumbersComeBack(t *testing.T) {
	for _, n := range someNumbers() {
		what := strconv.FormatInt(n, 10)
		bytes := impl.PutNum(n)
		is(t, "PutNum of "+what, bytes, string(binary.AppendVarint(nil, n)))
		size := int64(len(bytes))
		is(t, "GetNum of "+what, impl.GetNum(bytes, 0), impl.NumOut{N: n, At: size})
		is(t, "GetNum within a text of "+what, impl.GetNum("\xff\xff\xff"+bytes+"\xff", 3), impl.NumOut{N: n, At: 3 + size})
		for cut := range len(bytes) {
			is(t, "GetNum cut short of "+what, impl.GetNum(bytes[:cut], 0), impl.NumOut{Code: impl.ErrShort})
		}
	}
}

func TestNumbersStandAtTheEndOfALongText(t *testing.T) {
	text := longText(impl.MaxBytes-2) + impl.PutNum(64)
	is(t, "GetNum of the last bytes", impl.GetNum(text, impl.MaxBytes-2), impl.NumOut{N: 64, At: impl.MaxBytes})
	is(t, "GetNum behind them", impl.GetNum(text, impl.MaxBytes), impl.NumOut{Code: impl.ErrShort})
}

func TestGetNumFaults(t *testing.T) {
	nine := strings.Repeat("\xff", 9)
	low := strings.Repeat("\x80", 9)
	cases := []struct {
		what string
		text string
		at   int64
		code int64
	}{
		{"at below 0", "\x00", -1, impl.ErrForm},
		{"at the least", "\x00", math.MinInt64, impl.ErrForm},
		{"at below 0 of no text", "", -1, impl.ErrForm},
		{"at below 0 ahead of a number that is none", "\x80\x00", -1, impl.ErrForm},
		{"no byte", "", 0, impl.ErrShort},
		{"at its end", "\x00", 1, impl.ErrShort},
		{"at behind its end", "\x00", 2, impl.ErrShort},
		{"at the greatest", "\x00", math.MaxInt64, impl.ErrShort},
		{"one byte that goes on", "\x80", 0, impl.ErrShort},
		{"nine bytes that go on", nine, 0, impl.ErrShort},
		{"nine low bytes that go on", low, 0, impl.ErrShort},
		{"a tenth byte of 2", nine + "\x02", 0, impl.ErrSyntax},
		{"a tenth byte of 127", nine + "\x7f", 0, impl.ErrSyntax},
		{"a tenth byte of 128 at the end", nine + "\x80", 0, impl.ErrSyntax},
		{"a tenth byte of 255 at the end", nine + "\xff", 0, impl.ErrSyntax},
		{"a tenth byte of 129 and one more", nine + "\x81\x00", 0, impl.ErrSyntax},
		{"a tenth byte of 0", nine + "\x00", 0, impl.ErrSyntax},
		{"a tenth byte of 0 behind noughts", low + "\x00", 0, impl.ErrSyntax},
		{"a nought in two bytes", "\x80\x00", 0, impl.ErrSyntax},
		{"a nought in three bytes", "\x80\x80\x00", 0, impl.ErrSyntax},
		{"a number in more bytes than are needed", "\xff\x00", 0, impl.ErrSyntax},
		{"the same within a text", "ab\xff\x00\x00", 2, impl.ErrSyntax},
	}
	for _, c := range cases {
		is(t, "GetNum, "+c.what, impl.GetNum(c.text, c.at), impl.NumOut{Code: c.code})
		is(t, "GetText, "+c.what, impl.GetText(c.text, c.at), impl.TextOut{Code: c.code})
	}
	is(t, "a tenth byte of 1", impl.GetNum(low+"\x01", 0), impl.NumOut{N: 1 << 62, At: 10})
}

// Of each text of up to two bytes: it is read just where PutNum writes it so.
func TestGetNumTakesOnlyWhatPutNumGives(t *testing.T) {
	for first := range 256 {
		one := string([]byte{byte(first)})
		tellNum(t, one)
		for second := range 256 {
			tellNum(t, one+string([]byte{byte(second)}))
		}
	}
}

func tellNum(t *testing.T, text string) {
	t.Helper()
	out := impl.GetNum(text, 0)
	n, size := binary.Varint([]byte(text))
	switch {
	case size == 0:
		is(t, "GetNum of a text too short", out, impl.NumOut{Code: impl.ErrShort})
	case string(binary.AppendVarint(nil, n)) != text[:size]:
		is(t, "GetNum of a text too long", out, impl.NumOut{Code: impl.ErrSyntax})
	default:
		is(t, "GetNum of a text", out, impl.NumOut{N: n, At: int64(size)})
	}
}

func TestTextsComeBack(t *testing.T) {
	draws := sameDraws()
	for _, size := range []int{0, 1, 2, 63, 64, 65, 127, 128, 1000, 7997, 7998} {
		text := anyText(draws, size)
		what := strconv.Itoa(size) + " bytes"
		bytes := impl.PutText(text)
		is(t, "PutText of "+what, bytes, impl.PutNum(int64(size))+text)
		is(t, "GetText of "+what, impl.GetText(bytes, 0), impl.TextOut{Text: text, At: int64(len(bytes))})
		is(t, "GetText cut short of "+what, impl.GetText(bytes[:len(bytes)-1], 0), impl.TextOut{Code: impl.ErrShort})
	}
	is(t, "bytes of a text of 7998", len(impl.PutText(longText(7998))), impl.MaxBytes)
	row := impl.PutText("ab") + impl.PutText("") + impl.PutText("c")
	is(t, "GetText, the first of a row", impl.GetText(row, 0), impl.TextOut{Text: "ab", At: 3})
	is(t, "GetText, the next of a row", impl.GetText(row, 3), impl.TextOut{At: 4})
	is(t, "GetText, the last of a row", impl.GetText(row, 4), impl.TextOut{Text: "c", At: 6})
}

func TestPutTextLimit(t *testing.T) {
	full := longText(impl.MaxBytes)
	is(t, "PutText of 8000 bytes", impl.PutText(full), "\x80\x7d"+full)
	is(t, "PutText of 8001 bytes", impl.PutText(longText(impl.MaxBytes+1)), "")
}

func TestGetTextFaults(t *testing.T) {
	cases := []struct {
		what string
		text string
		at   int64
		code int64
	}{
		{"a length of -1", impl.PutNum(-1), 0, impl.ErrSyntax},
		{"the least length", impl.PutNum(math.MinInt64) + "abc", 0, impl.ErrSyntax},
		{"a length of 8001", impl.PutNum(8001), 0, impl.ErrSyntax},
		{"the greatest length", impl.PutNum(math.MaxInt64) + "abc", 0, impl.ErrSyntax},
		{"a length of 8000 without a text", impl.PutNum(8000), 0, impl.ErrShort},
		{"a length of 8000 within 8000 bytes", impl.PutNum(8000) + longText(7998), 0, impl.ErrShort},
		{"a text one byte shorter than its length", impl.PutNum(3) + "ab", 0, impl.ErrShort},
		{"no text", impl.PutNum(1), 0, impl.ErrShort},
		{"a text shorter than its length, within a text", "xx" + impl.PutNum(2) + "a", 2, impl.ErrShort},
	}
	for _, c := range cases {
		is(t, "GetText, "+c.what, impl.GetText(c.text, c.at), impl.TextOut{Code: c.code})
	}
}

// Chapter 1: a text that is too long is refused ahead of all else, so also ahead of what is wrong besides.
func TestTextsTooLong(t *testing.T) {
	for _, size := range []int{impl.MaxBytes + 1, 3 * impl.MaxBytes} {
		text := "\x00" + longText(size-1)
		for _, at := range []int64{0, -1, math.MinInt64, int64(size), math.MaxInt64} {
			is(t, "GetNum of a text too long", impl.GetNum(text, at), impl.NumOut{Code: impl.ErrSize})
			is(t, "GetText of a text too long", impl.GetText(text, at), impl.TextOut{Code: impl.ErrSize})
		}
		is(t, "Unseal of a text too long", impl.Unseal(text), impl.TextOut{Code: impl.ErrSize})
		is(t, "PutText of a text too long", impl.PutText(text), "")
		is(t, "Seal of a text too long", impl.Seal(text), "")
		is(t, "Crc of a text too long", impl.Crc(text), int64(0))
		is(t, "CrcMore of a text too long", impl.CrcMore(1, text), int64(0))
		is(t, "CrcMore of a text too long, and no CRC", impl.CrcMore(-1, text), int64(0))
		is(t, "NameRight of a text too long", impl.NameRight(longText(size)), false)
	}
}

func TestUnsealOfMoreThanSealGives(t *testing.T) {
	body := longText(impl.MaxBytes - 3)
	text := body + fourBytes(crc32.ChecksumIEEE([]byte(body)))
	is(t, "Unseal of 8001 bytes with their CRC", impl.Unseal(text), impl.TextOut{Code: impl.ErrSize})
}

func TestCrc(t *testing.T) {
	is(t, "Crc of no byte", impl.Crc(""), int64(0))
	is(t, "Crc of nine digits", impl.Crc("123456789"), int64(0xCBF43926))
	is(t, "Crc of one nought", impl.Crc("\x00"), int64(0xD202EF8D))
	draws := sameDraws()
	for _, size := range []int{1, 2, 3, 4, 5, 100, 7999, 8000} {
		text := anyText(draws, size)
		is(t, "Crc of "+strconv.Itoa(size)+" bytes", impl.Crc(text), int64(crc32.ChecksumIEEE([]byte(text))))
	}
	for b := range 256 {
		one := []byte{byte(b)}
		is(t, "Crc of byte "+strconv.Itoa(b), impl.Crc(string(one)), int64(crc32.ChecksumIEEE(one)))
	}
}

func TestCrcGoesOn(t *testing.T) {
	draws := sameDraws()
	for _, sizes := range [][2]int{{0, 0}, {0, 5}, {5, 0}, {1, 1}, {3, 70}, {4000, 4000}, {0, 8000}, {8000, 0}, {8000, 8000}} {
		first, behind := anyText(draws, sizes[0]), anyText(draws, sizes[1])
		both := int64(crc32.ChecksumIEEE([]byte(first + behind)))
		is(t, "CrcMore of two texts", impl.CrcMore(impl.Crc(first), behind), both)
		if len(first+behind) <= impl.MaxBytes {
			is(t, "Crc of both", impl.Crc(first+behind), both)
		}
	}
	three := impl.CrcMore(impl.CrcMore(impl.Crc("12"), "345"), "6789")
	is(t, "CrcMore of three texts", three, int64(0xCBF43926))
}

func TestCrcMoreOfWhatIsNoCrc(t *testing.T) {
	const most = 1<<32 - 1
	for _, crc := range []int64{-1, most + 1, math.MinInt64, math.MaxInt64, 1 << 40} {
		is(t, "CrcMore of "+strconv.FormatInt(crc, 10), impl.CrcMore(crc, "abc"), int64(0))
		is(t, "CrcMore of it and no text", impl.CrcMore(crc, ""), int64(0))
	}
	is(t, "CrcMore of 0", impl.CrcMore(0, "abc"), impl.Crc("abc"))
	is(t, "CrcMore of the most and no text", impl.CrcMore(most, ""), int64(most))
	is(t, "CrcMore of the most", impl.CrcMore(most, "abc"), int64(crc32.Update(most, crc32.IEEETable, []byte("abc"))))
}

func fourBytes(sum uint32) string {
	return string(binary.LittleEndian.AppendUint32(nil, sum))
}

func TestSealedTextsComeBack(t *testing.T) {
	draws := sameDraws()
	for _, size := range []int{0, 1, 3, 4, 5, 100, 7995, 7996} {
		text := anyText(draws, size)
		what := strconv.Itoa(size) + " bytes"
		sealed := impl.Seal(text)
		is(t, "Seal of "+what, sealed, text+fourBytes(crc32.ChecksumIEEE([]byte(text))))
		is(t, "Unseal of "+what, impl.Unseal(sealed), impl.TextOut{Text: text})
	}
	is(t, "Seal of no byte", impl.Seal(""), "\x00\x00\x00\x00")
	is(t, "Seal of nine digits", impl.Seal("123456789"), "123456789\x26\x39\xf4\xcb")
	is(t, "Seal of 7997 bytes", impl.Seal(longText(7997)), "")
	is(t, "Seal of 8000 bytes", impl.Seal(longText(impl.MaxBytes)), "")
}

func TestOneByteTurnedIsRefused(t *testing.T) {
	draws := sameDraws()
	for _, size := range []int{0, 1, 2, 20} {
		sealed := impl.Seal(anyText(draws, size))
		for at := range sealed {
			for by := 1; by < 256; by++ {
				is(t, "Unseal of a byte turned", impl.Unseal(turned(sealed, at, byte(by))), impl.TextOut{Code: impl.ErrSum})
			}
		}
	}
	sealed := impl.Seal(anyText(draws, 7996))
	for at := 0; at < len(sealed); at += 97 {
		is(t, "Unseal of a byte turned in a long text", impl.Unseal(turned(sealed, at, 1)), impl.TextOut{Code: impl.ErrSum})
	}
	is(t, "Unseal of a last byte turned in a long text", impl.Unseal(turned(sealed, len(sealed)-1, 128)), impl.TextOut{Code: impl.ErrSum})
}

func turned(text string, at int, by byte) string {
	out := []byte(text)
	out[at] ^= by
	return string(out)
}

func TestUnsealFaults(t *testing.T) {
	for _, text := range []string{"", "\x00", "\x00\x00", "\x00\x00\x00", "abc"} {
		is(t, "Unseal of fewer than four bytes", impl.Unseal(text), impl.TextOut{Code: impl.ErrShort})
	}
	sealed := impl.Seal("abcd")
	is(t, "Unseal of four bytes that are no CRC", impl.Unseal("abcd"), impl.TextOut{Code: impl.ErrSum})
	is(t, "Unseal of one byte less", impl.Unseal(sealed[:len(sealed)-1]), impl.TextOut{Code: impl.ErrSum})
	is(t, "Unseal of one byte more", impl.Unseal(sealed+"\x01"), impl.TextOut{Code: impl.ErrSum})
	is(t, "Unseal of the CRC's bytes turned round", impl.Unseal("123456789\xcb\xf4\x39\x26"), impl.TextOut{Code: impl.ErrSum})
	is(t, "Unseal of 8000 bytes that are no seal", impl.Unseal(longText(impl.MaxBytes)), impl.TextOut{Code: impl.ErrSum})
}

func TestNames(t *testing.T) {
	for _, name := range []string{"a", "z", "a0", "a9", "a_", "a_9", "zz", "cpu_0", "abcdefghijklmnopqrst", "a___________________"} {
		is(t, "NameRight of "+name, impl.NameRight(name), true)
	}
	none := []string{"", "_", "_a", "0", "0a", "9a", "A", "aA", "Za", "a-b", "a b", " a", "a ", "a.", "a\n", "a\x00", "é", "aé", "a\xff",
		"abcdefghijklmnopqrstu", "a____________________"}
	for _, text := range none {
		is(t, "NameRight of "+strconv.Quote(text), impl.NameRight(text), false)
	}
	is(t, "NameRight of 8000 bytes", impl.NameRight(longText(impl.MaxBytes)), false)
}

func TestEachByteInAName(t *testing.T) {
	for b := range 256 {
		one := string([]byte{byte(b)})
		letter := b >= 'a' && b <= 'z'
		later := letter || b >= '0' && b <= '9' || b == '_'
		is(t, "NameRight of byte "+strconv.Itoa(b), impl.NameRight(one), letter)
		is(t, "NameRight of byte "+strconv.Itoa(b)+" in the middle", impl.NameRight("a"+one+"a"), later)
		is(t, "NameRight of byte "+strconv.Itoa(b)+" at the end", impl.NameRight("a"+one), later)
	}
}
