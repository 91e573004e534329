package num

import (
	"math"
	"strconv"
	"strings"

	"bulwark/api"
)

const (
	maxDigits   = 40
	maxExponent = 3
	// The first digit of a number without an exponent stands from the 21st ahead of the point to the 6th behind it.
	highest = 20
	lowest  = -6
	digits  = "0123456789"
)

// cutDigits takes digits off the beginning of a text.
func cutDigits(s string) (taken, rest string) {
	rest = strings.TrimLeft(s, digits)
	return s[:len(s)-len(rest)], rest
}

// cutFraction takes a point and digits off the beginning of a text, if a point is there.
func cutFraction(s string) (taken, rest string, ok bool) {
	behind, pointed := strings.CutPrefix(s, ".")
	if !pointed {
		return "", s, true
	}
	taken, rest = cutDigits(behind)
	return taken, rest, taken != ""
}

// isExponent tells whether a text is an exponent, or nothing.
func isExponent(s string) bool {
	if s == "" {
		return true
	}
	behind, marked := strings.CutPrefix(s, "e")
	taken, rest := cutDigits(strings.TrimPrefix(behind, "-"))
	return marked && rest == "" && taken != "" && len(taken) <= maxExponent
}

// isText tells whether a text is one of a number that is finite as it stands.
func isText(s string) bool {
	whole, rest := cutDigits(strings.TrimPrefix(s, "-"))
	if whole == "" || whole[0] == '0' && len(whole) > 1 {
		return false
	}
	part, rest, ok := cutFraction(rest)
	return ok && len(whole)+len(part) <= maxDigits && isExponent(rest)
}

// Read answers the number of a text.
func Read(s string) (float64, api.Errno) {
	switch s {
	case "inf":
		return math.Inf(1), api.OK
	case "-inf":
		return math.Inf(-1), api.OK
	case "nan":
		return math.NaN(), api.OK
	}
	if !isText(s) {
		return 0, api.ErrForm
	}
	// Beyond the greatest number ParseFloat answers an infinity, and an error, which is none here.
	f, _ := strconv.ParseFloat(s, 64)
	return f, api.OK
}

// parts are the digits of a number that is finite, and the power of ten of the first one.
func parts(f float64) (ds string, exponent int) {
	mantissa, power, _ := strings.Cut(strconv.FormatFloat(f, 'e', -1, 64), "e")
	exponent, _ = strconv.Atoi(power)
	return strings.Replace(mantissa, ".", "", 1), exponent
}

// pointed puts a point behind the first n digits.
func pointed(ds string, n int) string {
	if n >= len(ds) {
		return ds + strings.Repeat("0", n-len(ds))
	}
	return ds[:n] + "." + ds[n:]
}

// Put answers a number's text.
func Put(f float64) string {
	sign := signOf(f)
	switch {
	case math.IsNaN(f):
		return "nan"
	case math.IsInf(f, 0):
		return sign + "inf"
	}
	ds, exponent := parts(math.Abs(f))
	switch {
	case exponent > highest || exponent < lowest:
		return sign + pointed(ds, 1) + "e" + strconv.Itoa(exponent)
	case exponent < 0:
		return sign + "0." + strings.Repeat("0", -exponent-1) + ds
	}
	return sign + pointed(ds, exponent+1)
}

// signOf is the sign of a number, also of a nought.
func signOf(f float64) string {
	if math.Signbit(f) {
		return "-"
	}
	return ""
}
