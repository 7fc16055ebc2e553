package whole

import (
	"strconv"
	"strings"

	"tracery/api"
)

// Decimal digits go in groups, as many as one digit of ours can hold.
const (
	groupLen  = 9
	groupBase = 1000000000
)

// Text answers the number's text.
func Text(a api.Whole) (string, api.Errno) {
	if Check(a) != api.OK {
		return "", api.ErrArg
	}
	if a == zero() {
		return "0", api.OK
	}
	var groups []uint32
	for d := digitsOf(a.Mag); len(d) > 0; d = trim(d) {
		groups = append(groups, cutBy(d, groupBase))
	}
	var text strings.Builder
	if a.Neg {
		text.WriteByte('-')
	}
	last := len(groups) - 1
	text.WriteString(groupText(groups[last]))
	for last > 0 {
		last--
		group := groupText(groups[last])
		text.WriteString(strings.Repeat("0", groupLen-len(group)))
		text.WriteString(group)
	}
	return text.String(), api.OK
}

func groupText(n uint32) string { return strconv.FormatUint(uint64(n), 10) }

// Read answers the number whose text s is.
func Read(s string) (api.Whole, api.Errno) {
	if len(s) > api.MaxDigits {
		return zero(), api.ErrLong
	}
	text, neg := strings.CutPrefix(s, "-")
	if !plainDigits(text) || s == "-0" {
		return zero(), api.ErrDigits
	}
	var d []uint32
	for text != "" {
		// The first group is the one that may be shorter.
		n := (len(text)-1)%groupLen + 1
		d = raise(d, groupBase, groupValue(text[:n]))
		text = text[n:]
	}
	return made(neg, d)
}

// plainDigits tells whether these are digits without noughts ahead.
func plainDigits(text string) bool {
	for i := range len(text) {
		if text[i] < '0' || text[i] > '9' {
			return false
		}
	}
	return text == "0" || text != "" && text[0] != '0'
}

func groupValue(group string) uint32 {
	var n uint32
	for i := range len(group) {
		n *= 10
		n += uint32(group[i] - '0')
	}
	return n
}
