package impl

import (
	"errors"
	"strconv"
)

// Constants, see chapter 1.
const (
	OK        = 0
	ErrForm   = 1
	ErrSize   = 2
	ErrSyntax = 3
	ErrShort  = 4
	ErrSum    = 5
	ErrNone   = 6
	ErrThere  = 7
	ErrRange  = 8
	ErrFull   = 9
	ErrState  = 10
	MaxBytes  = 8000
	MaxList   = 400
	MaxTime   = 1000000
)

// NumOut is a thing of chapter 2.
type NumOut struct {
	N    int64
	At   int64
	Code int64
}

// TextOut is a thing of chapter 2.
type TextOut struct {
	Text string
	At   int64
	Code int64
}

const (
	maxName   = 20
	maxCrc    = 1<<32 - 1
	crcTurn   = 0xEDB88320
	sealBytes = 4
)

// byteFault is why no number or text stands at a place; its code is what a call tells of it.
type byteFault struct {
	code int64
}

func (f byteFault) Error() string {
	return "bytes: code " + strconv.FormatInt(f.code, 10)
}

// faultCode is the code of what a reader of this layer answered; a reader without a fault has OK.
func faultCode(err error) int64 {
	var f byteFault
	if errors.As(err, &f) {
		return f.code
	}
	return OK
}

// PutNum: see chapter 2.
func PutNum(n int64) string {
	var b [10]byte
	used := 0
	u := foldSign(n)
	for u >= 128 {
		b[used] = byte(u%128) + 128
		used++
		u /= 128
	}
	b[used] = byte(u)
	return string(b[:used+1])
}

// foldSign puts the sign into the lowest bit, so that numbers near 0 on either side need few bytes.
// Below 0 the one is added ahead of the minus, as the least int64 has no counterpart above 0.
func foldSign(n int64) uint64 {
	if n >= 0 {
		return 2 * uint64(n)
	}
	return 2*uint64(-(n+1)) + 1
}

func unfoldSign(u uint64) int64 {
	half := int64(u / 2)
	if u%2 == 0 {
		return half
	}
	return -half - 1
}

// GetNum: see chapter 2.
func GetNum(text string, at int64) NumOut {
	if len(text) > MaxBytes {
		return NumOut{Code: ErrSize}
	}
	n, behind, err := readNum(text, at)
	if err != nil {
		return NumOut{Code: faultCode(err)}
	}
	return NumOut{N: n, At: behind}
}

// readNum reads the number at a place, and tells the place behind it.
func readNum(text string, at int64) (int64, int64, error) {
	var u uint64
	var shift uint
	var b byte
	code := int64(ErrSyntax)
	if at < 0 {
		code = ErrForm
		goto wrong
	}
more:
	if at >= int64(len(text)) {
		code = ErrShort
		goto wrong
	}
	b = text[at]
	at++
	// Of the tenth byte only one bit is left in 64, and nothing may follow it.
	if shift == 63 && b > 1 {
		goto wrong
	}
	u |= uint64(b%128) << shift
	if b < 128 {
		goto last
	}
	shift += 7
	goto more
last:
	// A last byte of 0 behind others adds nothing: fewer would have done.
	if b == 0 && shift > 0 {
		goto wrong
	}
	return unfoldSign(u), at, nil
wrong:
	return 0, 0, byteFault{code}
}

// PutText: see chapter 2.
func PutText(t string) string {
	if len(t) > MaxBytes {
		return ""
	}
	return joinTexts(PutNum(int64(len(t))), t)
}

// joinTexts puts texts one behind the other, in new memory.
func joinTexts(texts ...string) string {
	long := 0
	for _, t := range texts {
		long += len(t)
	}
	out := make([]byte, long)
	at := 0
	for _, t := range texts {
		at += copy(out[at:], t)
	}
	return string(out)
}

// GetText: see chapter 2.
func GetText(text string, at int64) TextOut {
	if len(text) > MaxBytes {
		return TextOut{Code: ErrSize}
	}
	t, behind, err := readText(text, at)
	if err != nil {
		return TextOut{Code: faultCode(err)}
	}
	return TextOut{Text: t, At: behind}
}

// readText reads the text at a place, and tells the place behind it.
func readText(text string, at int64) (string, int64, error) {
	long, from, err := readNum(text, at)
	if err != nil {
		return "", 0, err
	}
	if long < 0 || long > MaxBytes {
		return "", 0, byteFault{ErrSyntax}
	}
	if long > int64(len(text))-from {
		return "", 0, byteFault{ErrShort}
	}
	return copyText(text[from : from+long]), from + long, nil
}

// copyText gives a piece its own memory: an answer shares none with an argument.
func copyText(t string) string {
	out := make([]byte, len(t))
	copy(out, t)
	return string(out)
}

// NameRight: see chapter 2.
func NameRight(t string) bool {
	if len(t) < 1 || len(t) > maxName || !isLetter(t[0]) {
		return false
	}
	for i := 1; i < len(t); i++ {
		if !isLetter(t[i]) && !isDigit(t[i]) && t[i] != '_' {
			return false
		}
	}
	return true
}

func isLetter(b byte) bool {
	return b >= 'a' && b <= 'z'
}

func isDigit(b byte) bool {
	return b >= '0' && b <= '9'
}

// Crc: see chapter 2.
func Crc(text string) int64 {
	// The CRC of the empty text is 0: that of any text goes on from there.
	return CrcMore(0, text)
}

// CrcMore: see chapter 2.
func CrcMore(crc int64, text string) int64 {
	if len(text) > MaxBytes || crc < 0 || crc > maxCrc {
		return 0
	}
	register := ^uint32(crc)
	for i := 0; i < len(text); i++ {
		register = crcByte(register, text[i])
	}
	return int64(^register)
}

// crcByte shifts one byte into the register, its lowest bit first.
func crcByte(register uint32, b byte) uint32 {
	for bit := 0; bit < 8; bit++ {
		odd := (register ^ uint32(b>>bit)) % 2
		register >>= 1
		if odd == 1 {
			register ^= crcTurn
		}
	}
	return register
}

// Seal: see chapter 2.
func Seal(text string) string {
	if len(text) > MaxBytes-sealBytes {
		return ""
	}
	return joinTexts(text, crcText(Crc(text)))
}

func crcText(crc int64) string {
	var b [sealBytes]byte
	for i := range b {
		b[i] = byte(crc >> (8 * i))
	}
	return string(b[:])
}

// Unseal: see chapter 2.
func Unseal(text string) TextOut {
	if len(text) > MaxBytes {
		return TextOut{Code: ErrSize}
	}
	if len(text) < sealBytes {
		return TextOut{Code: ErrShort}
	}
	inner := text[:len(text)-sealBytes]
	if Seal(inner) != text {
		return TextOut{Code: ErrSum}
	}
	return TextOut{Text: copyText(inner)}
}
