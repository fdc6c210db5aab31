// Package octet is layer 1: numbers as bytes, and as digits. See shared/doc/01-octet.md.
package octet

import "periscope/api"

const (
	mostBytes  = 8
	mostDigits = 16
	byteBits   = 8
	digitBits  = 4
	digitSigns = "0123456789abcdef"
)

// Put is n as just so many bytes, the highest first.
func Put(n uint64, width int) (string, api.Errno) {
	if width < 1 || width > mostBytes {
		return "", api.ErrArg
	}
	if !fits(n, byteBits*width) {
		return "", api.ErrRange
	}
	out := make([]byte, width)
	for i := range width {
		out[width-1-i] = byte(n)
		n >>= byteBits
	}
	return string(out), api.OK
}

// Get is the number of so many bytes of s, from at on.
func Get(s string, at, width int) (uint64, api.Errno) {
	if width < 1 || width > mostBytes || at < 0 {
		return 0, api.ErrArg
	}
	// at+width would wrap round at the greatest numbers; len(s)-at does not.
	if width > len(s)-at {
		return 0, api.ErrShort
	}
	var n uint64
	for i := range width {
		n = n<<byteBits | uint64(s[at+i])
	}
	return n, api.OK
}

// Hex is n as just so many digits, the highest first.
func Hex(n uint64, digits int) (string, api.Errno) {
	if digits < 1 || digits > mostDigits {
		return "", api.ErrArg
	}
	if !fits(n, digitBits*digits) {
		return "", api.ErrRange
	}
	out := make([]byte, digits)
	for i := range digits {
		out[digits-1-i] = digitSigns[n%uint64(len(digitSigns))]
		n >>= digitBits
	}
	return string(out), api.OK
}

// Unhex is the number that s has as digits.
func Unhex(s string) (uint64, api.Errno) {
	if len(s) < 1 || len(s) > mostDigits {
		return 0, api.ErrForm
	}
	var n uint64
	for i := range len(s) {
		d, ok := digit(s[i])
		if !ok {
			return 0, api.ErrForm
		}
		n = n<<digitBits | d
	}
	return n, api.OK
}

func fits(n uint64, bits int) bool {
	// A shift by all 64 bits leaves 0, so the widest case needs no word of its own.
	return n>>bits == 0
}

func digit(c byte) (uint64, bool) {
	switch {
	case '0' <= c && c <= '9':
		return uint64(c - '0'), true
	case 'a' <= c && c <= 'f':
		return uint64(c-'a') + 10, true
	}
	return 0, false
}
