// Package word is layer 1: numbers as bytes, and as digits. See shared/doc/01-word.md.
package word

import (
	"math"
	"strconv"
	"strings"

	"vagabond/api"
)

// widest is how many bytes the greatest number has.
const widest = 8

// sixteen holds the digits of base 16, each at the place of its number.
const sixteen = "0123456789abcdef"

// Put: a number's bytes, the highest first.
func Put(n uint64, size int) string {
	size = min(max(size, 0), widest)
	out := make([]byte, size)
	for i := range size {
		out[size-1-i] = byte(n >> (8 * i))
	}
	return string(out)
}

// Get: the number of 1 to 8 bytes.
func Get(s string) (uint64, api.Errno) {
	if len(s) < 1 {
		return 0, api.ErrShort
	}
	if len(s) > widest {
		return 0, api.ErrLong
	}
	var n uint64
	for i := range len(s) {
		n = n<<8 | uint64(s[i])
	}
	return n, api.OK
}

// Cut: parts of so many bytes, and what is left.
func Cut(s string, sizes ...int) ([]string, api.Errno) {
	parts := make([]string, 0, len(sizes)+1)
	for _, size := range sizes {
		if size < 0 {
			return nil, api.ErrArg
		}
		if size > len(s) {
			return nil, api.ErrShort
		}
		// Cloned, for an answer shares no memory with what was handed in.
		parts = append(parts, strings.Clone(s[:size]))
		s = s[size:]
	}
	return append(parts, strings.Clone(s)), api.OK
}

// Add: a sum, or the greatest number.
func Add(a, b uint64) uint64 {
	if b > math.MaxUint64-a {
		return math.MaxUint64
	}
	return a + b
}

// Sub: a difference, or 0.
func Sub(a, b uint64) uint64 {
	if b > a {
		return 0
	}
	return a - b
}

// Digits: in decimal.
func Digits(n uint64) string { return strconv.FormatUint(n, 10) }

// Number: of digits.
func Number(s string) (uint64, api.Errno) {
	// The form is looked at whole, ahead of the range: of a text that is wrong in both ways the form's error is told.
	if !isDecimal(s) {
		return 0, api.ErrForm
	}
	var n uint64
	for i := range len(s) {
		digit := uint64(s[i] - '0')
		if n > (math.MaxUint64-digit)/10 {
			return 0, api.ErrRange
		}
		n = n*10 + digit
	}
	return n, api.OK
}

// isDecimal: has the text digits alone, and no nought ahead of others?
func isDecimal(s string) bool {
	if s == "" || len(s) > 1 && s[0] == '0' {
		return false
	}
	for i := range len(s) {
		if s[i] < '0' || s[i] > '9' {
			return false
		}
	}
	return true
}

// Hex: in base 16, small letters.
func Hex(s string) string {
	out := make([]byte, 2*len(s))
	for i := range len(s) {
		out[2*i] = sixteen[s[i]>>4]
		out[2*i+1] = sixteen[s[i]&15]
	}
	return string(out)
}

// Unhex: the text of base 16.
func Unhex(s string) (string, api.Errno) {
	if len(s)%2 != 0 {
		return "", api.ErrForm
	}
	out := make([]byte, len(s)/2)
	err := api.OK
read:
	for i := range len(out) {
		for half := range 2 {
			digit := strings.IndexByte(sixteen, s[2*i+half])
			if digit < 0 {
				err = api.ErrForm
				break read
			}
			out[i] = out[i]<<4 | byte(digit)
		}
	}
	if err != api.OK {
		return "", err
	}
	return string(out), api.OK
}
