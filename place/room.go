package place

import "bulwark/api"

const (
	leastExponent    = 3
	greatestExponent = 8
	most             = 511
	maxAlign         = 256
	// first is where the first region may stand, highest where the last one ends.
	first   = 64
	highest = api.Devices
)

// up is n, rounded up to a multiple of step. Both are small enough for the sum.
func up(n, step int) int { return (n + step - 1) / step * step }

// Room answers the least exponent of which n bytes can have exact bounds, and how many bytes those are.
func Room(n int) (e uint8, size int, ok bool) {
	if n < 0 || n > most<<greatestExponent {
		return 0, 0, false
	}
	for e = leastExponent; e <= greatestExponent; e++ {
		if size = up(n, 1<<e); size <= most<<e {
			return e, size, true
		}
	}
	return 0, 0, false
}

// isAlign tells whether n is a power of two that may be asked for.
func isAlign(n int) bool { return n > 0 && n <= maxAlign && n&(n-1) == 0 }

// Next answers the first exact region from at on for n bytes, that begins at a multiple of align.
func Next(at, n, align int) (from, size int, ok bool) {
	e, size, ok := Room(n)
	if !ok || !isAlign(align) || at < 0 || at > highest {
		return 0, 0, false
	}
	from = up(at, max(align, 1<<e))
	if from+size > highest {
		return 0, 0, false
	}
	return from, size, true
}
