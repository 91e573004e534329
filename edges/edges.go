// Package edges tells in which order the edges of graphs stand, where more than one layer asks for it.
package edges

import (
	"cmp"

	"bulwark/api"
)

// Compare tells which of two edges stands first, by Kind, From, To, Name, What.
func Compare(a, b api.Edge) int {
	return cmp.Or(cmp.Compare(a.Kind, b.Kind), cmp.Compare(a.From, b.From), cmp.Compare(a.To, b.To), cmp.Compare(a.Name, b.Name), cmp.Compare(a.What, b.What))
}
