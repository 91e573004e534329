package instr

// The forms of instructions.
const (
	formU = iota
	formJ
	formI
	formIPlain
	formShift
	formS
	formB
	formR
	formOne
	formSpecial
	formAlone
)

// What a form has, as bits.
const (
	hasRd = 1 << iota
	hasRs1
	hasRs2
	hasImm
)

// fixed has of each form which bits of a word tell what instruction it is.
var fixed = [...]uint32{
	0x7f, 0x7f, // u, j
	0x707f, 0x707f, // i, with its sign and without
	0xfe00707f,     // shift
	0x707f, 0x707f, // s, b
	0xfe00707f, 0xfff0707f, 0xfe00707f, // r, one source, special
	0xffffffff, // alone
}

// form is how instructions stand in words: what they have, and how Imm goes into a word and out of it.
type form struct {
	has int
	may func(imm int32) bool
	put func(imm int32) uint32
	get func(word uint32) int32
}

// signed makes a function that tells whether a number is one of so many bits with its sign, and a multiple of step.
func signed(bits uint, step int32) func(int32) bool {
	return func(imm int32) bool {
		return imm >= -1<<(bits-1) && imm < 1<<(bits-1) && imm%step == 0
	}
}

// multiple makes a function that tells whether a number is a multiple of step.
func multiple(step int32) func(int32) bool {
	return func(imm int32) bool { return imm%step == 0 }
}

// between makes a function that tells whether a number stands from low to high.
func between(low, high int32) func(int32) bool {
	return func(imm int32) bool { return imm >= low && imm <= high }
}

// high makes a function that shifts a number to the left.
func high(shift uint) func(int32) uint32 {
	return func(imm int32) uint32 { return uint32(imm) << shift }
}

// plain makes a function that takes so many bits of a word, from one on, without a sign.
func plain(shift, bits uint) func(uint32) int32 {
	return func(word uint32) int32 { return int32(word >> shift & (1<<bits - 1)) }
}

// bit is one bit of a number, at another place.
func bit(n uint32, from, to uint) uint32 { return n >> from & 1 << to }

// field is the bits of a number from from on, so many, at another place.
func field(n uint32, from, bits, to uint) uint32 { return n >> from & (1<<bits - 1) << to }

func putJ(imm int32) uint32 {
	n := uint32(imm)
	return bit(n, 20, 31) | field(n, 1, 10, 21) | bit(n, 11, 20) | field(n, 12, 8, 12)
}

func getJ(word uint32) int32 {
	return int32(word)>>31<<20 | int32(field(word, 21, 10, 1)|bit(word, 20, 11)|field(word, 12, 8, 12))
}

func putS(imm int32) uint32 {
	n := uint32(imm)
	return field(n, 5, 7, 25) | field(n, 0, 5, 7)
}

func getS(word uint32) int32 {
	return int32(word)>>25<<5 | int32(field(word, 7, 5, 0))
}

func putB(imm int32) uint32 {
	n := uint32(imm)
	return bit(n, 12, 31) | field(n, 5, 6, 25) | field(n, 1, 4, 8) | bit(n, 11, 7)
}

func getB(word uint32) int32 {
	return int32(word)>>31<<12 | int32(field(word, 25, 6, 5)|field(word, 8, 4, 1)|bit(word, 7, 11))
}

func getI(word uint32) int32 { return int32(word) >> 20 }

func getU(word uint32) int32 { return int32(word &^ 0xfff) }

// formOf is the form of a number.
func formOf(number uint8) form {
	switch number {
	case formU:
		return form{hasRd | hasImm, multiple(4096), high(0), getU}
	case formJ:
		return form{hasRd | hasImm, signed(21, 2), putJ, getJ}
	case formI:
		return form{hasRd | hasRs1 | hasImm, signed(12, 1), high(20), getI}
	case formIPlain:
		return form{hasRd | hasRs1 | hasImm, between(0, 4095), high(20), plain(20, 12)}
	case formShift:
		return form{hasRd | hasRs1 | hasImm, between(0, 31), high(20), plain(20, 5)}
	case formS:
		return form{hasRs1 | hasRs2 | hasImm, signed(12, 1), putS, getS}
	case formB:
		return form{hasRs1 | hasRs2 | hasImm, signed(13, 2), putB, getB}
	case formR:
		return form{hasRd | hasRs1 | hasRs2, between(0, 0), high(0), plain(0, 0)}
	case formOne:
		return form{hasRd | hasRs1, between(0, 0), high(0), plain(0, 0)}
	case formSpecial:
		return form{hasRd | hasRs1 | hasImm, between(27, 31), high(20), plain(20, 5)}
	}
	return form{0, between(0, 0), high(0), plain(0, 0)}
}
