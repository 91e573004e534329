package script

import "strings"

const (
	hexDigits = "0123456789abcdef"
	none      = "-"
)

// hexText tells bytes, two digits a byte.
func hexText(b []byte) string {
	if len(b) == 0 {
		return none
	}
	var t strings.Builder
	for _, x := range b {
		t.WriteByte(hexDigits[x>>4])
		t.WriteByte(hexDigits[x&15])
	}
	return t.String()
}

// hexBytes are the bytes of a text.
func hexBytes(s string) ([]byte, bool) {
	if s == none {
		return nil, true
	}
	if len(s)%2 != 0 {
		return nil, false
	}
	var b []byte
	for k := 0; k < len(s); k += 2 {
		high, low := strings.IndexByte(hexDigits, s[k]), strings.IndexByte(hexDigits, s[k+1])
		if high < 0 || low < 0 {
			return nil, false
		}
		b = append(b, byte(high<<4|low))
	}
	return b, true
}
