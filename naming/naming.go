// Package naming tells which texts may be names, where more than one layer asks for it.
package naming

// Limits of names.
const (
	maxName     = 16
	maxSymbol   = 32
	maxVariable = 8
	first       = 33
	last        = 126
	remark      = '#'
)

func isSmall(c byte) bool { return c >= 'a' && c <= 'z' }

func isDigit(c byte) bool { return c >= '0' && c <= '9' }

// IsGreat tells whether a byte is a great letter, with which variables of policies begin, and nothing else there.
func IsGreat(c byte) bool { return c >= 'A' && c <= 'Z' }

// IsName tells whether a compartment, a region, a device may have that name.
func IsName(s string) bool {
	if len(s) < 1 || len(s) > maxName || !isSmall(s[0]) {
		return false
	}
	for i := range len(s) {
		if !isSmall(s[i]) && !isDigit(s[i]) && s[i] != '_' {
			return false
		}
	}
	return true
}

// IsSymbol tells whether a symbol, a file may have that name.
func IsSymbol(s string) bool {
	if len(s) < 1 || len(s) > maxSymbol || s[0] == remark {
		return false
	}
	for i := range len(s) {
		if s[i] < first || s[i] > last {
			return false
		}
	}
	return true
}

// IsVariable tells whether a variable of a policy may have that name.
func IsVariable(s string) bool {
	if len(s) < 1 || len(s) > maxVariable || !IsGreat(s[0]) {
		return false
	}
	for i := 1; i < len(s); i++ {
		if !isSmall(s[i]) && !isDigit(s[i]) {
			return false
		}
	}
	return true
}
