package policy

import (
	"strings"

	"bulwark/api"
	"bulwark/naming"
)

// What stands in a node between its word and its end, as letters.
const (
	partFormula     = 'f'
	partFormulas    = '*'
	partNumber      = 'n'
	partCompartment = 'c' // as Name
	partOther       = 'd' // a compartment as Other
	partVariable    = 'v'
	partSymbol      = 's' // as Other
	partNamed       = 'r' // a region's, a device's name, as Other
)

// shape is what nodes of one word are, and what stands in them.
type shape struct {
	kind  api.NodeKind
	rel   api.NumRel
	op    api.NumOp
	of    int
	parts string
}

// formulas are the words of formulas in brackets.
func formulas() map[string]shape {
	return map[string]shape{
		"not":    {kind: api.FormNot, parts: "f"},
		"and":    {kind: api.FormAnd, parts: "*"},
		"or":     {kind: api.FormOr, parts: "*"},
		"if":     {kind: api.FormIf, parts: "ff"},
		"all":    {kind: api.FormAll, parts: "vf"},
		"some":   {kind: api.FormSome, parts: "vf"},
		"is":     {kind: api.FormIs, parts: "cd"},
		"call":   {kind: api.FormCall, parts: "cd"},
		"reach":  {kind: api.FormReach, parts: "cd"},
		"start":  {kind: api.FormStart, parts: "c"},
		"export": {kind: api.FormExport, parts: "cs"},
		"device": {kind: api.FormDevice, parts: "cr"},
		"read":   {kind: api.FormRead, parts: "cr"},
		"write":  {kind: api.FormWrite, parts: "cr"},
		"less":   {kind: api.FormRel, rel: api.RelLess, parts: "nn"},
		"most":   {kind: api.FormRel, rel: api.RelMost, parts: "nn"},
		"same":   {kind: api.FormRel, rel: api.RelSame, parts: "nn"},
	}
}

// numbers are the words of numbers in brackets.
func numbers() map[string]shape {
	return map[string]shape{
		"add":          {kind: api.NumDo, op: api.NumAdd, parts: "nn"},
		"sub":          {kind: api.NumDo, op: api.NumSub, parts: "nn"},
		"mul":          {kind: api.NumDo, op: api.NumMul, parts: "nn"},
		"div":          {kind: api.NumDo, op: api.NumDiv, parts: "nn"},
		"min":          {kind: api.NumDo, op: api.NumMin, parts: "nn"},
		"max":          {kind: api.NumDo, op: api.NumMax, parts: "nn"},
		"exports":      {kind: api.NumOf, of: api.OfExports, parts: "c"},
		"calls":        {kind: api.NumOf, of: api.OfCalls, parts: "c"},
		"callers":      {kind: api.NumOf, of: api.OfCallers, parts: "c"},
		"stack":        {kind: api.NumOf, of: api.OfStack, parts: "c"},
		"compartments": {kind: api.NumCompartments},
	}
}

// isSymbol tells whether a word is a symbol of policies.
func isSymbol(s string) bool {
	return naming.IsSymbol(s) && !naming.IsGreat(s[0]) && !strings.ContainsAny(s, "()#")
}
