// Package addr has addresses.
package addr

import (
	"strconv"
	"strings"

	"waywarden/api"
)

const (
	byteCount  = 4   // bytes of an address
	maxByte    = 255 // greatest number in a text
	mostDigits = 3   // digits of maxByte
)

// Text returns the four bytes of an address in decimal, separated by dots.
func Text(a uint32) string {
	return byteText(a>>24) + "." + byteText(a>>16) + "." + byteText(a>>8) + "." + byteText(a)
}

// byteText returns the lowest byte of a in decimal.
func byteText(a uint32) string {
	return strconv.Itoa(int(a & maxByte))
}

// Parse returns the address whose Text is s, or ErrForm if there is none.
func Parse(s string) (uint32, error) {
	// One part more than an address has is enough to see that there are too
	// many, however long s is.
	parts := strings.SplitN(s, ".", byteCount+1)
	if len(parts) != byteCount {
		return 0, api.ErrForm
	}
	var a uint32
	for _, part := range parts {
		b, ok := parseByte(part)
		if !ok {
			return 0, api.ErrForm
		}
		a = a<<8 | b
	}
	return a, nil
}

// parseByte returns the number from 0 to 255 that byteText writes as s.
// strconv would accept too much here: signs and leading zeros.
func parseByte(s string) (uint32, bool) {
	if len(s) == 0 || len(s) > mostDigits {
		return 0, false
	}
	if s[0] == '0' && len(s) > 1 {
		return 0, false
	}
	var n uint32
	for i := 0; i < len(s); i++ {
		if s[i] < '0' || s[i] > '9' {
			return 0, false
		}
		n = n*10 + uint32(s[i]-'0')
	}
	if n > maxByte {
		return 0, false
	}
	return n, true
}
