// Package same tells whether plans are the same, where more than one layer asks for it.
package same

import (
	"slices"

	"bulwark/api"
)

// compartments tells whether two compartments are the same.
func compartments(a, b api.Compartment) bool {
	return a.Name == b.Name && slices.Equal(a.Files, b.Files) && slices.Equal(a.Exports, b.Exports) &&
		slices.Equal(a.Imports, b.Imports) && slices.Equal(a.Devices, b.Devices) && slices.Equal(a.Gives, b.Gives)
}

// Plans tells whether two plans are the same.
func Plans(a, b api.Plan) bool {
	return a.Stack == b.Stack && a.Trusted == b.Trusted && a.Start == b.Start && a.Main == b.Main &&
		slices.Equal(a.Shares, b.Shares) && slices.EqualFunc(a.Compartments, b.Compartments, compartments)
}
