package impl

import (
	"errors"
	"strconv"
)

// Constants, see chapter 1.
const (
	OK        = 0
	ErrForm   = 1
	ErrSize   = 2
	ErrSyntax = 3
	ErrShort  = 4
	ErrSum    = 5
	ErrNone   = 6
	ErrThere  = 7
	ErrRange  = 8
	ErrFull   = 9
	ErrState  = 10
	ErrClash  = 11
	ErrOver   = 12
	ErrLate   = 13
	MaxBytes  = 8000
	MaxList   = 400
	MaxTime   = 1000000
)

// NumOut is a thing of chapter 2.
type NumOut struct {
	N    int64
	At   int64
	Code int64
}

// TextOut is a thing of chapter 2.
type TextOut struct {
	Text string
	At   int64
	Code int64
}

// sumBytes is how many bytes of a sealed text are its CRC.
const sumBytes = 4

// crcOnes is a register of 32 bits with all of them set: where a CRC begins, and what turns its bits at the end.
const crcOnes = 0xFFFFFFFF

// byteFault is why bytes can't be read. It is a type of its own so that the code rides in the error up to the face.
type byteFault struct {
	code int64
}

func (f byteFault) Error() string {
	return "bytes: code " + strconv.FormatInt(f.code, 10)
}

// codeOf takes the code out of what reading bytes answered.
func codeOf(err error) int64 {
	var fault byteFault
	if errors.As(err, &fault) {
		return fault.code
	}
	return OK
}

// joinTexts lays texts one behind the other in new memory, so that an answer shares none with what was handed in.
func joinTexts(parts ...string) string {
	size := 0
	for _, part := range parts {
		size += len(part)
	}
	out := make([]byte, size)
	at := 0
	for _, part := range parts {
		at += copy(out[at:], part)
	}
	return string(out)
}

// foldSign keeps numbers near 0 small, whatever their sign: few bytes then hold them.
func foldSign(n int64) uint64 {
	if n < 0 {
		return ^(uint64(n) << 1) // -2n-1, which would run over as an int64
	}
	return uint64(n) << 1
}

// unfoldSign takes back what foldSign did.
func unfoldSign(u uint64) int64 {
	if u&1 == 1 {
		return int64(^(u >> 1))
	}
	return int64(u >> 1)
}

// readNum tells the number at a place, and the place behind it.
func readNum(text string, at int64) (int64, int64, error) {
	var u uint64
	var b byte
	shift := 0
	fault := byteFault{code: ErrSyntax}
	if at < 0 {
		fault.code = ErrForm
		goto wrong
	}
more:
	if at >= int64(len(text)) {
		fault.code = ErrShort
		goto wrong
	}
	b = text[at]
	at++
	if shift == 63 && b > 1 { // only one of the 64 bits is left for the tenth byte
		goto wrong
	}
	u |= uint64(b&127) << shift
	if b < 128 {
		goto last
	}
	shift += 7
	goto more
last:
	if b == 0 && shift > 0 { // a nought on top: fewer bytes would have done
		goto wrong
	}
	return unfoldSign(u), at, nil
wrong:
	return 0, 0, fault
}

// readText tells the text at a place, and the place behind it.
func readText(text string, at int64) (string, int64, error) {
	size, from, err := readNum(text, at)
	if err != nil {
		return "", 0, err
	}
	if size < 0 || size > MaxBytes {
		return "", 0, byteFault{code: ErrSyntax}
	}
	if size > int64(len(text))-from {
		return "", 0, byteFault{code: ErrShort}
	}
	return joinTexts(text[from : from+size]), from + size, nil
}

// PutNum: see chapter 2.
func PutNum(n int64) string {
	var out [10]byte
	count := 0
	u := foldSign(n)
	for u >= 128 {
		out[count] = byte(u&127) | 128
		count++
		u >>= 7
	}
	out[count] = byte(u)
	return string(out[:count+1])
}

// GetNum: see chapter 2.
func GetNum(text string, at int64) NumOut {
	if len(text) > MaxBytes {
		return NumOut{Code: ErrSize}
	}
	n, next, err := readNum(text, at)
	return NumOut{N: n, At: next, Code: codeOf(err)}
}

// PutText: see chapter 2.
func PutText(t string) string {
	if len(t) > MaxBytes {
		return ""
	}
	return joinTexts(PutNum(int64(len(t))), t)
}

// GetText: see chapter 2.
func GetText(text string, at int64) TextOut {
	if len(text) > MaxBytes {
		return TextOut{Code: ErrSize}
	}
	got, next, err := readText(text, at)
	return TextOut{Text: got, At: next, Code: codeOf(err)}
}

// NameRight: see chapter 1.
func NameRight(t string) bool {
	if len(t) < 1 || len(t) > 20 {
		return false
	}
	for i := 0; i < len(t); i++ {
		letter := t[i] >= 'a' && t[i] <= 'z'
		later := t[i] >= '0' && t[i] <= '9' || t[i] == '_'
		if !letter && (i == 0 || !later) {
			return false
		}
	}
	return true
}

// crcStep takes one byte into the register.
func crcStep(register uint32, b byte) uint32 {
	register ^= uint32(b) // all eight bits at once: each meets the register's lowest bit when its turn comes
	for range 8 {
		low := register & 1
		register >>= 1
		if low == 1 {
			register ^= 0xEDB88320
		}
	}
	return register
}

// Crc: see chapter 2.
func Crc(text string) int64 {
	return CrcMore(0, text) // no byte was taken in yet: the CRC of the empty text is 0
}

// CrcMore: see chapter 2.
func CrcMore(crc int64, text string) int64 {
	if len(text) > MaxBytes || crc < 0 || crc > crcOnes {
		return 0
	}
	register := uint32(crc) ^ crcOnes
	for i := 0; i < len(text); i++ {
		register = crcStep(register, text[i])
	}
	return int64(register ^ crcOnes)
}

// sumText lays a CRC's four bytes, the lowest first.
func sumText(crc int64) string {
	var out [sumBytes]byte
	for i := range out {
		out[i] = byte(crc >> (8 * i))
	}
	return string(out[:])
}

// Seal: see chapter 2.
func Seal(text string) string {
	if len(text) > MaxBytes-sumBytes {
		return ""
	}
	return joinTexts(text, sumText(Crc(text)))
}

// Unseal: see chapter 2.
func Unseal(text string) TextOut {
	if len(text) > MaxBytes {
		return TextOut{Code: ErrSize}
	}
	if len(text) < sumBytes {
		return TextOut{Code: ErrShort}
	}
	body := text[:len(text)-sumBytes]
	if Seal(body) != text {
		return TextOut{Code: ErrSum}
	}
	return TextOut{Text: joinTexts(body)}
}
