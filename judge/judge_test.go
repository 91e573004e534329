package judge_test

import (
	"fmt"
	"math"
	"math/rand"
	"reflect"
	"strings"
	"testing"

	"bulwark/api"
	"bulwark/judge"
	"bulwark/num"
	"bulwark/policy"
)

// world: a calls b twice and c, b calls c, d calls itself; e nobody; c and d are apart.
func world() api.Graph {
	return api.Graph{
		Compartments: []string{"a", "b", "c", "d", "e"},
		Edges: []api.Edge{
			{Kind: api.EdgeExport, From: 0, To: -1, Name: "main", What: 64 << 8},
			{Kind: api.EdgeExport, From: 1, To: -1, Name: "f", What: 2 + 32<<8}, {Kind: api.EdgeExport, From: 1, To: -1, Name: "g", What: 6 + 4088<<8}, {Kind: api.EdgeExport, From: 1, To: -1, Name: "h", What: 1 + 8<<8},
			{Kind: api.EdgeExport, From: 2, To: -1, Name: "f", What: 5}, {Kind: api.EdgeExport, From: 3, To: -1, Name: "f", What: 255},
			{Kind: api.EdgeCall, From: 0, To: 1, Name: "f"}, {Kind: api.EdgeCall, From: 0, To: 1, Name: "g"}, {Kind: api.EdgeCall, From: 0, To: 2, Name: "f"}, {Kind: api.EdgeCall, From: 1, To: 2, Name: "f"}, {Kind: api.EdgeCall, From: 3, To: 3, Name: "f"},
			{Kind: api.EdgeDevice, From: 0, To: -1, Name: "led", What: 65280 + 4<<16}, {Kind: api.EdgeShare, From: 0, To: -1, Name: "pool", What: 3}, {Kind: api.EdgeShare, From: 1, To: -1, Name: "pool", What: 1},
			{Kind: api.EdgeStart, From: 0, To: -1, Name: "main"},
		},
	}
}

func read(t *testing.T, text string) []api.Node {
	t.Helper()
	l, e := policy.Read(text)
	if e != api.OK {
		t.Fatalf("%s: %d", text, e)
	}
	return l
}

func TestWhatHolds(t *testing.T) {
	for _, c := range []struct {
		text string
		want bool
	}{
		{"yes", true}, {"no", false}, {"( not yes )", false}, {"( not no )", true},
		{"( and )", true}, {"( or )", false}, {"( and yes yes )", true}, {"( and yes no )", false}, {"( and no yes )", false}, {"( or no no )", false}, {"( or no yes )", true}, {"( or yes no )", true},
		{"( if no no )", true}, {"( if no yes )", true}, {"( if yes no )", false}, {"( if yes yes )", true},
		{"( is a a )", true}, {"( is a b )", false}, {"( is x x )", false}, {"( is a x )", false}, {"( is x a )", false}, {"( not ( is x x ) )", true},
		{"( call a b )", true}, {"( call b a )", false}, {"( call a c )", true}, {"( call a a )", false}, {"( call d d )", true}, {"( call a x )", false}, {"( call x a )", false}, {"( call x x )", false},
		{"( reach a a )", true}, {"( reach a b )", true}, {"( reach a c )", true}, {"( reach c a )", false}, {"( reach b a )", false}, {"( reach e e )", true}, {"( reach d a )", false}, {"( reach a x )", false}, {"( reach x x )", false}, {"( reach x a )", false},
		{"( start a )", true}, {"( start b )", false}, {"( start x )", false},
		{"( export a main )", true}, {"( export b main )", false}, {"( export b g )", true}, {"( export x f )", false}, {"( export a f )", false}, {"( export a led )", false},
		{"( device a led )", true}, {"( device b led )", false}, {"( device a pool )", false}, {"( device x led )", false},
		{"( read a pool )", true}, {"( read b pool )", true}, {"( read c pool )", false}, {"( read a led )", false}, {"( read x pool )", false},
		{"( write a pool )", true}, {"( write b pool )", false}, {"( write a led )", false}, {"( write x pool )", false},
		{"( all A ( reach A A ) )", true}, {"( all A ( call A b ) )", false}, {"( some A ( call A b ) )", true}, {"( some A ( and ( call a A ) ( call A c ) ) )", true}, {"( some A ( not ( is A A ) ) )", false}, {"( all A ( export A f ) )", false},
		{"( all A ( some B ( reach A B ) ) )", true}, {"( some A ( all B ( reach A B ) ) )", false}, {"( all A ( some A ( start A ) ) )", true}, {"( all A ( if ( some A ( start A ) ) ( reach A A ) ) )", true},
		// The inner A is bound for its own part alone.
		{"( some A ( and ( is A e ) ( some A ( is A b ) ) ( is A e ) ) )", true}, {"( some A ( and ( all A yes ) ( is A c ) ) )", true}, {"( some A ( and ( not ( all A ( is A a ) ) ) ( is A d ) ) )", true},
		{"( all A ( if ( reach A b ) ( is A a ) ) )", false}, {"( all A ( if ( reach A b ) ( or ( is A a ) ( is A b ) ) ) )", true},
		{"( same 1 1 )", true}, {"( same 0 -0 )", true}, {"( same nan nan )", false}, {"( not ( less nan 1 ) )", true}, {"( less -inf inf )", true}, {"( most 2 1 )", false}, {"( most 1 1 )", true}, {"( less 1 1 )", false},
		{"( same ( compartments ) 5 )", true}, {"( same ( exports b ) 3 )", true}, {"( same ( exports e ) 0 )", true}, {"( same ( calls a ) 3 )", true}, {"( same ( calls c ) 0 )", true}, {"( same ( callers c ) 2 )", true}, {"( same ( callers b ) 2 )", true}, {"( same ( callers a ) 0 )", true}, {"( same ( callers d ) 1 )", true},
		{"( same ( stack b ) 4088 )", true}, {"( same ( stack a ) 64 )", true}, {"( same ( stack d ) 0 )", true}, {"( same ( stack e ) -inf )", true}, {"( same ( exports x ) ( exports x ) )", false}, {"( same ( stack x ) ( stack x ) )", false}, {"( most ( calls x ) inf )", false}, {"( most 0 ( callers x ) )", false},
		{"( same ( add 1 2 ) 3 )", true}, {"( same ( sub 1 2 ) -1 )", true}, {"( same ( mul 3 -2 ) -6 )", true}, {"( same ( div 1 4 ) 0.25 )", true}, {"( same ( div 1 -0 ) -inf )", true}, {"( same ( div 0 0 ) ( div 0 0 ) )", false}, {"( same ( min 2 1 ) 1 )", true}, {"( same ( max 2 1 ) 2 )", true}, {"( same ( add 0.1 0.2 ) 0.3 )", false},
		{"( all A ( most ( stack A ) 4088 ) )", true}, {"( all A ( less ( stack A ) 4088 ) )", false}, {"( some A ( same ( div 1 ( calls A ) ) inf ) )", true}, {"( all A ( less ( calls A ) ( compartments ) ) )", true},
	} {
		if is, e := judge.Holds(world(), read(t, c.text), 1000); is != c.want || e != api.OK {
			t.Errorf("%s: %v, %d", c.text, is, e)
		}
	}
}

func TestOfAnEmptyGraph(t *testing.T) {
	for text, want := range map[string]bool{
		"( all A no )": true, "( some A yes )": false, "( same ( stack x ) ( stack x ) )": false, "( same ( compartments ) 0 )": true, "( reach a a )": false, "( is a a )": false, "yes": true,
	} {
		if is, e := judge.Holds(api.Graph{}, read(t, text), 10); is != want || e != api.OK {
			t.Errorf("%s: %v, %d", text, is, e)
		}
	}
	if is, e := judge.Holds(api.Graph{}, read(t, "yes"), 0); is || e != api.ErrFuel {
		t.Errorf("without fuel: %v, %d", is, e)
	}
}

func TestFuel(t *testing.T) {
	for text, n := range map[string]int{
		"yes": 1, "( is a x )": 1, "( not no )": 2, "( and )": 1, "( and yes yes no yes )": 4, "( and no yes )": 2, "( or yes no )": 2, "( or no no yes yes )": 4, "( or )": 1,
		"( if no ( not yes ) )": 2, "( if yes ( not yes ) )": 4,
		"( all A yes )": 6, "( all A ( is A a ) )": 3, "( some A no )": 6, "( some A ( is A c ) )": 4, "( all A ( all B yes ) )": 31, "( all A ( some B ( is A B ) ) )": 1 + 5 + 1 + 2 + 3 + 4 + 5,
		"( less 1 2 )": 3, "( less ( add 1 ( mul 2 3 ) ) ( compartments ) )": 7, "( less nan ( stack x ) )": 3, "( all A ( less -1 ( calls A ) ) )": 16, "( not ( not ( not yes ) ) )": 4,
	} {
		l := read(t, text)
		is, e := judge.Holds(world(), l, n)
		much, e2 := judge.Holds(world(), l, math.MaxInt)
		if e != api.OK || e2 != api.OK || is != much {
			t.Errorf("%s, %d: %v, %d; %v, %d", text, n, is, e, much, e2)
		}
		for _, fuel := range []int{n - 1, n / 2, 0, -1, math.MinInt} {
			if is, e := judge.Holds(world(), l, fuel); is || e != api.ErrFuel {
				t.Errorf("%s, %d of %d: %v, %d", text, fuel, n, is, e)
			}
		}
	}
}

func TestNodesThatAreNone(t *testing.T) {
	for name, l := range map[string][]api.Node{
		"none": nil, "no kind": {{}}, "a number": {{Kind: api.NumCompartments}}, "not bound": {{Kind: api.FormStart, Name: "A"}}, "itself": {{Kind: api.FormNot, Kids: []int{0}}}, "two": {{Kind: api.FormYes}, {Kind: api.FormYes}}, "no kids": {{Kind: api.FormNot}}, "a kid far off": {{Kind: api.FormNot, Kids: []int{7}}},
	} {
		for _, fuel := range []int{0, 10} {
			if is, e := judge.Holds(world(), l, fuel); is || e != api.ErrForm {
				t.Errorf("%s: %v, %d", name, is, e)
			}
		}
		for at := -1; at < 3; at++ {
			if f, e := judge.Number(world(), l, at); f != 0 || e != api.ErrForm {
				t.Errorf("%s: %v, %d", name, f, e)
			}
		}
	}
}

func TestNumber(t *testing.T) {
	l := read(t, "( and ( less ( add ( stack b ) ( mul 2 ( exports x ) ) ) ( max ( stack e ) ( callers c ) ) )\n( all A ( most ( add ( calls A ) 1 ) ( sub ( compartments ) -0 ) ) ) ( same -0 nan ) )")
	// The numbers: 0 and, 1 less, 2 add, 3 stack b, 4 mul, 5 the text 2, 6 exports x, 7 max, 8 stack e, 9 callers c, 10 all, 11 most, 12 add, 13 calls A, 14 the text 1, 15 sub, 16 compartments, 17 the text -0, 18 same, 19 -0, 20 nan.
	for at, want := range map[int]float64{2: math.NaN(), 3: 4088, 4: math.NaN(), 5: 2, 6: math.NaN(), 7: 2, 8: math.Inf(-1), 9: 2, 14: 1, 15: 5, 16: 5, 17: math.Copysign(0, -1), 19: math.Copysign(0, -1), 20: math.NaN()} {
		if f, e := judge.Number(world(), l, at); !num.Same(f, want) || e != api.OK {
			t.Errorf("%d: %v, %d", at, f, e)
		}
	}
	for _, at := range []int{0, 1, 10, 11, 12, 13, 18, 21, -1, math.MaxInt, math.MinInt} {
		if f, e := judge.Number(world(), l, at); f != 0 || e != api.ErrForm {
			t.Errorf("%d: %v, %d", at, f, e)
		}
	}
}

func TestReach(t *testing.T) {
	want := []string{"11100", "01100", "00100", "00010", "00001"}
	for from := -2; from < 8; from++ {
		for to := -2; to < 8; to++ {
			is := from >= 0 && to >= 0 && from < 5 && to < 5 && want[from][to] == '1'
			if judge.Reach(world(), from, to) != is {
				t.Errorf("%d to %d: %v", from, to, !is)
			}
		}
	}
	if judge.Reach(api.Graph{}, 0, 0) || judge.Reach(world(), math.MinInt, math.MaxInt) {
		t.Error("no compartment's number")
	}
}

// A graph that nobody would put: nothing goes by a number that is no compartment's.
func TestGraphsThatAreOdd(t *testing.T) {
	g := api.Graph{Compartments: []string{"a", "b", "a", "A", ""}, Edges: []api.Edge{
		{Kind: api.EdgeCall, From: 0, To: 9}, {Kind: api.EdgeCall, From: 9, To: 1}, {Kind: api.EdgeCall, From: -1, To: 1}, {Kind: api.EdgeCall, From: 0, To: -1}, {Kind: api.EdgeCall, From: -1, To: 1},
		{Kind: api.EdgeCall, From: math.MaxInt, To: math.MinInt}, {Kind: 77, From: 0, To: 1}, {Kind: api.EdgeExport, From: 5}, {Kind: api.EdgeShare, From: 1, To: 4, Name: "r", What: 7}, {Kind: api.EdgeExport, From: 1, Name: "f", What: 1<<32 - 1},
	}}
	for text, want := range map[string]bool{
		"( reach a b )": false, "( call a b )": false, "( call a x )": false, "( is a a )": true, "( reach a a )": true, "( read b r )": true, "( write b r )": false, "( same ( calls a ) 2 )": true, "( same ( callers b ) 3 )": true, "( same ( stack b ) 16777215 )": true,
		"( same ( compartments ) 5 )": true, "( some A ( not ( is A a ) ) )": true, "( all A ( some B ( is A B ) ) )": true,
	} {
		if is, e := judge.Holds(g, read(t, text), 1000); is != want || e != api.OK {
			t.Errorf("%s: %v, %d", text, is, e)
		}
	}
	if judge.Reach(g, 0, 1) || !judge.Reach(g, 2, 2) {
		t.Error("Reach")
	}
}

// model is what holds, by the words of the text alone, and how many nodes that takes.
type model struct {
	g     api.Graph
	words []string
	cost  int
}

func (m *model) find(name string, bound map[string]int) int {
	if c, is := bound[name]; is {
		return c
	}
	for c, x := range m.g.Compartments {
		if x == name {
			return c
		}
	}
	return -1
}

func (m *model) edges(is func(e api.Edge) bool) int {
	n := 0
	for _, e := range m.g.Edges {
		if is(e) {
			n++
		}
	}
	return n
}

// end is where what begins at a word ends.
func (m *model) end(at int) int {
	for deep := 0; ; at++ {
		switch m.words[at] {
		case "(":
			deep++
		case ")":
			deep--
		}
		if deep == 0 {
			return at + 1
		}
	}
}

func (m *model) parts(at int) []int {
	var l []int
	for m.words[at] != ")" {
		l = append(l, at)
		at = m.end(at)
	}
	return l
}

func (m *model) number(at int, bound map[string]int) float64 {
	m.cost++
	if m.words[at] != "(" {
		f, _ := num.Read(m.words[at])
		return f
	}
	word, behind := m.words[at+1], m.parts(at+2)
	switch word {
	case "compartments":
		return float64(len(m.g.Compartments))
	case "exports", "calls", "callers", "stack":
		c := m.find(m.words[at+2], bound)
		if c < 0 {
			return math.NaN()
		}
		switch word {
		case "exports":
			return float64(m.edges(func(e api.Edge) bool { return e.Kind == 1 && e.From == c }))
		case "calls":
			return float64(m.edges(func(e api.Edge) bool { return e.Kind == 2 && e.From == c }))
		case "callers":
			return float64(m.edges(func(e api.Edge) bool { return e.Kind == 2 && e.To == c }))
		}
		most := math.Inf(-1)
		for _, e := range m.g.Edges {
			if e.Kind == 1 && e.From == c {
				most = math.Max(most, float64(e.What/256))
			}
		}
		return most
	}
	a, b := m.number(behind[0], bound), m.number(behind[1], bound)
	for k, name := range []string{"add", "sub", "mul", "div", "min", "max"} {
		if name == word {
			f, _ := num.Do(api.NumOp(k+1), a, b)
			return f
		}
	}
	panic(word)
}

func with(bound map[string]int, v string, c int) map[string]int {
	more := map[string]int{}
	for k, x := range bound {
		more[k] = x
	}
	more[v] = c
	return more
}

func (m *model) formula(at int, bound map[string]int) bool {
	m.cost++
	if m.words[at] != "(" {
		return m.words[at] == "yes"
	}
	word, behind := m.words[at+1], m.parts(at+2)
	name := func(k int) string { return m.words[behind[k]] }
	c := func(k int) int { return m.find(name(k), bound) }
	switch word {
	case "not":
		return !m.formula(behind[0], bound)
	case "and":
		for _, k := range behind {
			if !m.formula(k, bound) {
				return false
			}
		}
		return true
	case "or":
		for _, k := range behind {
			if m.formula(k, bound) {
				return true
			}
		}
		return false
	case "if":
		return !m.formula(behind[0], bound) || m.formula(behind[1], bound)
	case "all", "some":
		for k := range m.g.Compartments {
			if m.formula(behind[1], with(bound, name(0), k)) == (word == "some") {
				return word == "some"
			}
		}
		return word == "all"
	case "is":
		return c(0) >= 0 && c(0) == c(1)
	case "call":
		return c(0) >= 0 && c(1) >= 0 && m.edges(func(e api.Edge) bool { return e.Kind == 2 && e.From == c(0) && e.To == c(1) }) > 0
	case "reach":
		return c(0) >= 0 && c(1) >= 0 && m.closure()[c(0)][c(1)]
	case "start":
		return m.edges(func(e api.Edge) bool { return e.Kind == 5 && e.From == c(0) }) > 0
	case "export", "device", "read", "write":
		kind := map[string]uint8{"export": 1, "device": 3, "read": 4, "write": 4}[word]
		return m.edges(func(e api.Edge) bool {
			return e.Kind == kind && e.From == c(0) && e.Name == name(1) && (word != "write" || e.What == 3)
		}) > 0
	}
	a, b := m.number(behind[0], bound), m.number(behind[1], bound)
	is, _ := num.Is(map[string]api.NumRel{"less": 1, "most": 2, "same": 3}[word], a, b)
	return is
}

// closure is who reaches whom, found by squares.
func (m *model) closure() [][]bool {
	n := len(m.g.Compartments)
	r := make([][]bool, n)
	for k := range r {
		r[k] = make([]bool, n)
		r[k][k] = true
	}
	for _, e := range m.g.Edges {
		if e.Kind == 2 {
			r[e.From][e.To] = true
		}
	}
	for k := range n {
		for a := range n {
			for b := range n {
				r[a][b] = r[a][b] || r[a][k] && r[k][b]
			}
		}
	}
	return r
}

func randomGraph(r *rand.Rand) api.Graph {
	var g api.Graph
	n := r.Intn(5)
	for k := range n {
		g.Compartments = append(g.Compartments, string(rune('a'+k)))
	}
	for range n * r.Intn(5) {
		e := api.Edge{Kind: uint8(1 + r.Intn(5)), From: r.Intn(n), To: -1, Name: []string{"f", "g", "r"}[r.Intn(3)], What: uint32(1 + 2*r.Intn(2) + r.Intn(3)*256)}
		if e.Kind == api.EdgeCall {
			e.To = r.Intn(n)
		}
		g.Edges = append(g.Edges, e)
	}
	return g
}

type maker struct {
	r     *rand.Rand
	bound []string
}

func (m *maker) pick(l ...string) string { return l[m.r.Intn(len(l))] }

func (m *maker) c() string {
	if len(m.bound) > 0 && m.r.Intn(3) > 0 {
		return m.pick(m.bound...)
	}
	return m.pick("a", "b", "c", "x")
}

func (m *maker) number(deep int) string {
	switch m.r.Intn(4 + deep) {
	case 0:
		return "( " + m.pick("add", "sub", "mul", "div", "min", "max") + " " + m.number(deep+1) + " " + m.number(deep+1) + " )"
	case 1, 2:
		return "( " + m.pick("exports", "calls", "callers", "stack") + " " + m.c() + " )"
	case 3:
		return "( compartments )"
	}
	return m.pick("0", "1", "-0", "inf", "nan", "2.5")
}

func (m *maker) formula(deep int) string {
	switch m.r.Intn(7 + deep) {
	case 0:
		return "( not " + m.formula(deep+1) + " )"
	case 1, 2:
		s := "( " + m.pick("and", "or")
		for range m.r.Intn(4) {
			s += " " + m.formula(deep+1)
		}
		return s + " )"
	case 3:
		return "( if " + m.formula(deep+1) + " " + m.formula(deep+1) + " )"
	case 4, 5:
		v := m.pick("A", "B", "C")
		m.bound = append(m.bound, v)
		s := "( " + m.pick("all", "some") + " " + v + " " + m.formula(deep+1) + " )"
		m.bound = m.bound[:len(m.bound)-1]
		return s
	case 6:
		return "( " + m.pick("less", "most", "same") + " " + m.number(deep+1) + " " + m.number(deep+1) + " )"
	case 7, 8, 9:
		return "( " + m.pick("is", "call", "reach") + " " + m.c() + " " + m.c() + " )"
	case 10, 11:
		return "( " + m.pick("export", "device", "read", "write") + " " + m.c() + " " + m.pick("f", "g", "r") + " )"
	case 12:
		return "( start " + m.c() + " )"
	}
	return m.pick("yes", "no")
}

func nodes(text string) ([]api.Node, api.Errno) {
	return policy.Read(strings.ReplaceAll(text, " ", "\n"))
}

// What holds is what first-order logic says, and it takes just as much fuel as nodes are gone through.
func TestAsTheModel(t *testing.T) {
	r := rand.New(rand.NewSource(25))
	yes, tried := 0, 0
	for range 20000 {
		m := maker{r: r}
		text := m.formula(0)
		l, e := nodes(text)
		if e == api.ErrLimit {
			continue
		}
		g := randomGraph(r)
		says := model{g: g, words: strings.Fields(text)}
		want := says.formula(0, nil)
		if is, e := judge.Holds(g, l, says.cost); is != want || e != api.OK {
			t.Fatalf("%s of %+v: %v, %d, not %v", text, g, is, e, want)
		}
		if is, e := judge.Holds(g, l, says.cost-1); is || e != api.ErrFuel {
			t.Fatalf("%s of %+v with less than %d: %v, %d", text, g, says.cost, is, e)
		}
		tried++
		if want {
			yes++
		}
	}
	if yes < tried/5 || yes > tried*4/5 {
		t.Errorf("%d of %d hold", yes, tried)
	}
}

func TestWhatFollows(t *testing.T) {
	r := rand.New(rand.NewSource(7))
	holds := func(g api.Graph, text string) bool {
		l, e := nodes(text)
		if e != api.OK {
			t.Fatalf("%s: %d", text, e)
		}
		is, e := judge.Holds(g, l, 1000000)
		if e != api.OK {
			t.Fatalf("%s: %d", text, e)
		}
		return is
	}
	for range 1500 {
		g := randomGraph(r)
		m := maker{r: r, bound: []string{"A"}}
		inner := m.formula(4)
		if holds(g, "( not ( all A "+inner+" ) )") != holds(g, "( some A ( not "+inner+" ) )") {
			t.Fatalf("not of all of %s", inner)
		}
		m.bound = nil
		x, y, z := m.formula(5), m.formula(5), m.formula(5)
		for _, word := range []string{"and", "or"} {
			if holds(g, fmt.Sprintf("( %s %s %s %s )", word, x, y, z)) != holds(g, fmt.Sprintf("( %s %s %s %s )", word, z, x, y)) {
				t.Fatalf("%s of %s, %s, %s", word, x, y, z)
			}
		}
		if !holds(g, "( all A ( all B ( all C ( if ( and ( reach A B ) ( reach B C ) ) ( reach A C ) ) ) ) )") {
			t.Fatalf("reach is not handed on: %+v", g)
		}
		n := len(g.Compartments)
		says := model{g: g}
		closure := says.closure()
		for a := range n {
			for b := range n {
				if judge.Reach(g, a, b) != closure[a][b] {
					t.Fatalf("%d reaches %d in %+v: %v", a, b, g, !closure[a][b])
				}
			}
		}
	}
}

// What is handed in stays as it is.
func TestNothingChanges(t *testing.T) {
	g, l := world(), read(t, "( all A ( some B ( less ( calls A ) ( callers B ) ) ) )")
	judge.Holds(g, l, 1000)
	judge.Number(g, l, 3)
	judge.Reach(g, 0, 1)
	if !reflect.DeepEqual(g, world()) || !reflect.DeepEqual(l, read(t, "( all A ( some B ( less ( calls A ) ( callers B ) ) ) )")) {
		t.Error("changed")
	}
}
