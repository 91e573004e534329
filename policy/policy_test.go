package policy_test

import (
	"math"
	"math/rand"
	"reflect"
	"slices"
	"strings"
	"testing"

	"bulwark/api"
	"bulwark/num"
	"bulwark/policy"
)

func leaf(k api.NodeKind, name, other string) api.Node {
	return api.Node{Kind: k, Name: name, Other: other}
}

func TestReadKinds(t *testing.T) {
	for text, want := range map[string][]api.Node{
		"yes":                      {{Kind: api.FormYes}},
		"no":                       {{Kind: api.FormNo}},
		"( and )":                  {{Kind: api.FormAnd}},
		"( or )":                   {{Kind: api.FormOr}},
		"( not yes )":              {{Kind: api.FormNot, Kids: []int{1}}, {Kind: api.FormYes}},
		"( if no yes )":            {{Kind: api.FormIf, Kids: []int{1, 2}}, {Kind: api.FormNo}, {Kind: api.FormYes}},
		"( and yes no yes )":       {{Kind: api.FormAnd, Kids: []int{1, 2, 3}}, {Kind: api.FormYes}, {Kind: api.FormNo}, {Kind: api.FormYes}},
		"( or ( not yes ) no )":    {{Kind: api.FormOr, Kids: []int{1, 3}}, {Kind: api.FormNot, Kids: []int{2}}, {Kind: api.FormYes}, {Kind: api.FormNo}},
		"( all A no )":             {{Kind: api.FormAll, Name: "A", Kids: []int{1}}, {Kind: api.FormNo}},
		"( some Bc9 yes )":         {{Kind: api.FormSome, Name: "Bc9", Kids: []int{1}}, {Kind: api.FormYes}},
		"( is a b )":               {leaf(api.FormIs, "a", "b")},
		"( is yes no )":            {leaf(api.FormIs, "yes", "no")},
		"( call a_1 b )":           {leaf(api.FormCall, "a_1", "b")},
		"( reach a a )":            {leaf(api.FormReach, "a", "a")},
		"( start a )":              {leaf(api.FormStart, "a", "")},
		"( export a f.Q$1 )":       {leaf(api.FormExport, "a", "f.Q$1")},
		"( export a 9 )":           {leaf(api.FormExport, "a", "9")},
		"( device a led )":         {leaf(api.FormDevice, "a", "led")},
		"( read a pool )":          {leaf(api.FormRead, "a", "pool")},
		"( write a pool )":         {leaf(api.FormWrite, "a", "pool")},
		"( some A ( start A ) )":   {{Kind: api.FormSome, Name: "A", Kids: []int{1}}, leaf(api.FormStart, "A", "")},
		"( all A ( is b A ) )":     {{Kind: api.FormAll, Name: "A", Kids: []int{1}}, leaf(api.FormIs, "b", "A")},
		"( all A ( export A f ) )": {{Kind: api.FormAll, Name: "A", Kids: []int{1}}, leaf(api.FormExport, "A", "f")},
		"( less 1 -2.5 )":          {{Kind: api.FormRel, Rel: api.RelLess, Kids: []int{1, 2}}, {Kind: api.NumText, Value: 1}, {Kind: api.NumText, Value: -2.5}},
		"( most inf -inf )":        {{Kind: api.FormRel, Rel: api.RelMost, Kids: []int{1, 2}}, {Kind: api.NumText, Value: math.Inf(1)}, {Kind: api.NumText, Value: math.Inf(-1)}},
		"( same ( compartments ) ( exports a ) )": {{Kind: api.FormRel, Rel: api.RelSame, Kids: []int{1, 2}}, {Kind: api.NumCompartments}, {Kind: api.NumOf, Of: api.OfExports, Name: "a"}},
		"( less ( calls a ) ( callers b ) )":      {{Kind: api.FormRel, Rel: api.RelLess, Kids: []int{1, 2}}, {Kind: api.NumOf, Of: api.OfCalls, Name: "a"}, {Kind: api.NumOf, Of: api.OfCallers, Name: "b"}},
		"( less ( stack a ) ( add 1 2 ) )":        {{Kind: api.FormRel, Rel: api.RelLess, Kids: []int{1, 2}}, {Kind: api.NumOf, Of: api.OfStack, Name: "a"}, {Kind: api.NumDo, Op: api.NumAdd, Kids: []int{3, 4}}, {Kind: api.NumText, Value: 1}, {Kind: api.NumText, Value: 2}},
		"( less ( sub 1 2 ) ( mul 3 4 ) )": {{Kind: api.FormRel, Rel: api.RelLess, Kids: []int{1, 4}}, {Kind: api.NumDo, Op: api.NumSub, Kids: []int{2, 3}}, {Kind: api.NumText, Value: 1}, {Kind: api.NumText, Value: 2},
			{Kind: api.NumDo, Op: api.NumMul, Kids: []int{5, 6}}, {Kind: api.NumText, Value: 3}, {Kind: api.NumText, Value: 4}},
		"( less ( div 1 2 ) ( min ( max 3 4 ) 5 ) )": {{Kind: api.FormRel, Rel: api.RelLess, Kids: []int{1, 4}}, {Kind: api.NumDo, Op: api.NumDiv, Kids: []int{2, 3}}, {Kind: api.NumText, Value: 1}, {Kind: api.NumText, Value: 2},
			{Kind: api.NumDo, Op: api.NumMin, Kids: []int{5, 8}}, {Kind: api.NumDo, Op: api.NumMax, Kids: []int{6, 7}}, {Kind: api.NumText, Value: 3}, {Kind: api.NumText, Value: 4}, {Kind: api.NumText, Value: 5}},
		"# a remark\n\n  ( not\t# another\n yes )\n": {{Kind: api.FormNot, Kids: []int{1}}, {Kind: api.FormYes}},
	} {
		l, e := policy.Read(text)
		if e != api.OK || !reflect.DeepEqual(l, want) {
			t.Errorf("%s: %+v, %d", text, l, e)
		}
	}
}

// nested is a formula of that many nodes, one in the other.
func nested(n int) string {
	return strings.Repeat("( not\n", n-1) + "yes\n" + strings.Repeat(" )\n", n-1)
}

// wide is a formula of that many nodes, all but one side by side.
func wide(n int) string { return "( and\n" + strings.Repeat("yes\n", n-1) + ")" }

// short is wide with more than one word on a line.
func short(n int) string { return "( and\n" + strings.Repeat("yes ", 20) + "\n" + wide(n - 20)[6:] }

func TestReadErrors(t *testing.T) {
	for _, c := range []struct {
		text string
		want api.Errno
	}{
		{"", api.ErrForm}, {"# yes", api.ErrForm}, {"\x01", api.ErrForm}, {"yes\u00e9", api.ErrForm}, {strings.Repeat("\n", 401), api.ErrLimit}, {strings.Repeat(" ", 101), api.ErrLimit},
		{"yes yes", api.ErrForm}, {"maybe", api.ErrForm}, {"Yes", api.ErrForm}, {"A", api.ErrForm}, {"1", api.ErrForm}, {"(", api.ErrForm}, {")", api.ErrForm}, {"( )", api.ErrForm}, {"( yes )", api.ErrForm}, {"(not yes)", api.ErrForm},
		{"( not )", api.ErrForm}, {"( not yes yes )", api.ErrForm}, {"( not yes", api.ErrForm}, {"( and yes", api.ErrForm}, {"( and yes ) )", api.ErrForm}, {"( or 1 )", api.ErrForm}, {"( if yes )", api.ErrForm}, {"( if yes no yes )", api.ErrForm},
		{"( all a yes )", api.ErrForm}, {"( all A )", api.ErrForm}, {"( all A yes no )", api.ErrForm}, {"( all AB yes )", api.ErrForm}, {"( all A_ yes )", api.ErrForm}, {"( some Abcdefgh yes )", api.OK}, {"( some Abcdefghi yes )", api.ErrForm}, {"( some A0 yes )", api.OK}, {"( all ( yes )", api.ErrForm},
		{"( is a )", api.ErrForm}, {"( is a b c )", api.ErrForm}, {"( is a 1 )", api.ErrForm}, {"( is a_b_c_d_e_f_g_h b )", api.OK}, {"( is abcdefghijklmnop b )", api.OK}, {"( is abcdefghijklmnopq b )", api.ErrForm}, {"( is a.b c )", api.ErrForm}, {"( is a Abcdefghi )", api.ErrForm}, {"( is a AB )", api.ErrForm},
		{"( call A b )", api.ErrNone}, {"( call b A )", api.ErrNone}, {"( start A )", api.ErrNone}, {"( all A ( call A B ) )", api.ErrNone}, {"( and ( all A yes ) ( start A ) )", api.ErrNone}, {"( all A ( and ( some A yes ) ( start A ) ) )", api.OK}, {"( all A ( some A ( start A ) ) )", api.OK},
		{"( export a F )", api.ErrForm}, {"( export a ff(g )", api.ErrForm}, {"( export a f)g )", api.ErrForm}, {"( export a f#g )", api.ErrForm}, {"( export a ( )", api.ErrForm}, {"( export A F )", api.ErrNone}, {"( all A ( export a A ) )", api.ErrForm},
		{"( export a " + strings.Repeat("x", 32) + " )", api.OK}, {"( export a " + strings.Repeat("x", 33) + " )", api.ErrForm}, {"( export a ~ )", api.OK}, {"( export a ! )", api.OK},
		{"( device a Led )", api.ErrForm}, {"( device a l.d )", api.ErrForm}, {"( read a 1r )", api.ErrForm}, {"( write a " + strings.Repeat("w", 17) + " )", api.ErrForm}, {"( write a " + strings.Repeat("w", 16) + " )", api.OK}, {"( device A l.d )", api.ErrNone}, {"( all A ( read a A ) )", api.ErrForm},
		{"( less 1 )", api.ErrForm}, {"( less 1 2 3 )", api.ErrForm}, {"( less yes 2 )", api.ErrForm}, {"( less 01 2 )", api.ErrForm}, {"( less 1. 2 )", api.ErrForm}, {"( less a 2 )", api.ErrForm}, {"( less ( not yes ) 2 )", api.ErrForm}, {"( add 1 2 )", api.ErrForm}, {"( not ( add 1 2 ) )", api.ErrForm}, {"( not 1 )", api.ErrForm},
		{"( less ( less 1 2 ) 2 )", api.ErrForm}, {"( less ( exports ) 2 )", api.ErrForm}, {"( less ( exports A ) 2 )", api.ErrNone}, {"( less ( exports a b ) 2 )", api.ErrForm}, {"( less ( compartments a ) 2 )", api.ErrForm}, {"( less ( add 1 ) 2 )", api.ErrForm}, {"( most nan -nan )", api.ErrForm}, {"( most nan -0 )", api.OK},
		{nested(40), api.OK}, {nested(41), api.ErrLimit}, {"( less " + strings.Repeat("( add 1\n", 38) + "1" + strings.Repeat("\n)", 38) + " 1 )", api.OK}, {"( less " + strings.Repeat("( add 1\n", 39) + "1" + strings.Repeat("\n)", 39) + " 1 )", api.ErrLimit},
		{short(400), api.OK}, {short(401), api.ErrLimit},
		// The first thing from the left is told.
		{"( and ( call A b ) maybe )", api.ErrNone}, {"( and maybe ( call A b ) )", api.ErrForm}, {short(401) + " )", api.ErrLimit}, {"( call A )", api.ErrNone}, {"( call 1 A )", api.ErrForm}, {nested(41) + " )", api.ErrLimit},
		{"( and ( start A ) " + nested(40) + ")", api.ErrNone}, {"( and\n" + nested(40) + "( start A ) )", api.ErrLimit}, {strings.Repeat("( not\n", 40) + "maybe", api.ErrForm}, {strings.Repeat("( not\n", 40) + "no", api.ErrLimit}, {"( start A \x7f", api.ErrForm},
	} {
		l, e := policy.Read(c.text)
		if e != c.want || (e != api.OK) != (len(l) == 0) {
			t.Errorf("%.60q: %d nodes, %d, not %d", c.text, len(l), e, c.want)
		}
	}
	for text, n := range map[string]int{"yes": 1, "( all A ( not ( call A b ) ) )": 3, short(400): 400, nested(40): 40} {
		if l, e := policy.Read(text); len(l) != n || e != api.OK {
			t.Errorf("%.60q: %d nodes, %d", text, len(l), e)
		}
	}
}

func TestPutTexts(t *testing.T) {
	for text, want := range map[string]string{
		"yes":                               "yes\n",
		"  ( and yes\n\tno ) # so":          "( and yes no )\n",
		"( all A ( some B ( call A B ) ) )": "( all A ( some B ( call A B ) ) )\n",
		"( less 1.50 1e3 )":                 "( less 1.5 1000 )\n",
		"( same nan -0 )":                   "( same nan -0 )\n",
		"( most ( stack a ) ( max ( compartments ) ( callers b ) ) )": "( most ( stack a ) ( max ( compartments ) ( callers b ) ) )\n",
		"( if ( export a F.x ) no )":                                  "",
		"( if ( export a f.X ) ( write b r ) )":                       "( if ( export a f.X ) ( write b r ) )\n",
		// 100 bytes stand in one line; of 101 the last word goes on the next.
		"( and " + strings.Repeat("yes ", 23) + ")":                      "( and " + strings.Repeat("yes ", 23) + ")\n",
		"( and ( and ) " + strings.Repeat("yes ", 21) + ")":              "( and ( and ) " + strings.Repeat("yes ", 21) + ")\n",
		"( and ( export a aaa )\n" + strings.Repeat("yes ", 19) + ")":    "( and ( export a aaa ) " + strings.Repeat("yes ", 19) + ")\n",
		"( and ( export a aaaa )\n" + strings.Repeat("yes ", 19) + ")":   "( and ( export a aaaa ) " + strings.Repeat("yes ", 18) + "yes\n)\n",
		"( and ( export a aaaaa )\n" + strings.Repeat("yes ", 19) + ")":  "( and ( export a aaaaa ) " + strings.Repeat("yes ", 18) + "yes\n)\n",
		"( and ( export a aaaaaa )\n" + strings.Repeat("yes ", 19) + ")": "( and ( export a aaaaaa ) " + strings.Repeat("yes ", 17) + "yes\nyes )\n",
	} {
		l, _ := policy.Read(text)
		s, e := policy.Put(l)
		if s != want || (e != api.OK) != (want == "") {
			t.Errorf("%s: %q, %d", text, s, e)
		}
		for _, line := range strings.Split(s, "\n") {
			if len(line) > 100 {
				t.Errorf("%d bytes in a line", len(line))
			}
		}
	}
	l, _ := policy.Read("( less nan 1 )")
	l[1].Value = math.Float64frombits(0xfff8000000000123)
	if s, e := policy.Put(l); s != "( less nan 1 )\n" || e != api.OK {
		t.Errorf("another NaN: %q, %d", s, e)
	}
}

func TestPutRefuses(t *testing.T) {
	good := func() []api.Node {
		l, _ := policy.Read("( all A ( or ( call A b ) ( less ( add 1 ( stack A ) ) ( compartments ) ) ( export A f ) ( and ) ) )")
		return l
	}
	if s, e := policy.Put(good()); e != api.OK || !strings.HasPrefix(s, "( all A ( or") {
		t.Fatalf("%q, %d", s, e)
	}
	// The numbers: 0 all, 1 or, 2 call, 3 less, 4 add, 5 the text 1, 6 stack, 7 compartments, 8 export, 9 and.
	for name, change := range map[string]func(l []api.Node) []api.Node{
		"none":                func([]api.Node) []api.Node { return nil },
		"no kind":             func(l []api.Node) []api.Node { l[2].Kind = 0; return l },
		"a kind too many":     func(l []api.Node) []api.Node { l[2].Kind = api.NumCompartments + 1; return l },
		"kind 255":            func(l []api.Node) []api.Node { l[9].Kind = 255; return l },
		"a number alone":      func(l []api.Node) []api.Node { return []api.Node{{Kind: api.NumText}} },
		"one behind":          func(l []api.Node) []api.Node { return append(l, api.Node{Kind: api.FormYes}) },
		"one less":            func(l []api.Node) []api.Node { return l[:9] },
		"a kid twice":         func(l []api.Node) []api.Node { l[1].Kids = []int{2, 2, 8, 9}; return l },
		"a kid less":          func(l []api.Node) []api.Node { l[1].Kids = []int{2, 3, 8}; return l },
		"a kid more":          func(l []api.Node) []api.Node { l[9].Kids = []int{10}; return l },
		"a kid of yes":        func(l []api.Node) []api.Node { l[9] = api.Node{Kind: api.FormYes, Kids: []int{0}}; return l },
		"itself":              func(l []api.Node) []api.Node { l[0].Kids = []int{0}; return l },
		"a kid below":         func(l []api.Node) []api.Node { l[0].Kids = []int{-1}; return l },
		"a kid far off":       func(l []api.Node) []api.Node { l[0].Kids = []int{math.MaxInt}; return l },
		"kids out of order":   func(l []api.Node) []api.Node { l[1].Kids = []int{3, 2, 8, 9}; return l },
		"no kids of all":      func(l []api.Node) []api.Node { l[0].Kids = nil; return l },
		"not bound":           func(l []api.Node) []api.Node { l[0].Name = "B"; return l },
		"no variable":         func(l []api.Node) []api.Node { l[0].Name = "a"; return l },
		"an empty name":       func(l []api.Node) []api.Node { l[2].Other = ""; return l },
		"no name of none":     func(l []api.Node) []api.Node { l[9].Name = "a"; return l },
		"another of none":     func(l []api.Node) []api.Node { l[6].Other = "a"; return l },
		"two words":           func(l []api.Node) []api.Node { l[2].Other = "b ) ( call A b"; return l },
		"a line's end":        func(l []api.Node) []api.Node { l[2].Other = "b\n"; return l },
		"a remark":            func(l []api.Node) []api.Node { l[2].Other = "#b"; return l },
		"a very long name":    func(l []api.Node) []api.Node { l[2].Other = strings.Repeat("b", 100); return l },
		"a symbol's bracket":  func(l []api.Node) []api.Node { l[8].Other = "f)"; return l },
		"a great symbol":      func(l []api.Node) []api.Node { l[8].Other = "F"; return l },
		"a Rel":               func(l []api.Node) []api.Node { l[2].Rel = api.RelLess; return l },
		"no Rel":              func(l []api.Node) []api.Node { l[3].Rel = 0; return l },
		"no such Rel":         func(l []api.Node) []api.Node { l[3].Rel = api.RelSame + 1; return l },
		"an Op":               func(l []api.Node) []api.Node { l[7].Op = api.NumAdd; return l },
		"no Op":               func(l []api.Node) []api.Node { l[4].Op = 0; return l },
		"no such Op":          func(l []api.Node) []api.Node { l[4].Op = api.NumMax + 1; return l },
		"an Op of text":       func(l []api.Node) []api.Node { l[5].Op = api.NumAdd; return l },
		"an Of":               func(l []api.Node) []api.Node { l[9].Of = 1; return l },
		"no Of":               func(l []api.Node) []api.Node { l[6].Of = 0; return l },
		"no such Of":          func(l []api.Node) []api.Node { l[6].Of = 5; return l },
		"Of below":            func(l []api.Node) []api.Node { l[6].Of = -1; return l },
		"a Value":             func(l []api.Node) []api.Node { l[7].Value = 1; return l },
		"a Value -0":          func(l []api.Node) []api.Node { l[9].Value = math.Copysign(0, -1); return l },
		"a Value NaN":         func(l []api.Node) []api.Node { l[9].Value = math.NaN(); return l },
		"formula as number":   func(l []api.Node) []api.Node { l[5] = api.Node{Kind: api.FormYes}; return l },
		"number as formula":   func(l []api.Node) []api.Node { l[9] = api.Node{Kind: api.NumText}; return l },
		"of number, formulas": func(l []api.Node) []api.Node { l[9] = api.Node{Kind: api.NumCompartments}; return l },
	} {
		if s, e := policy.Put(change(good())); e != api.ErrForm || s != "" {
			t.Errorf("%s: %q, %d", name, s, e)
		}
	}
	l, _ := policy.Read(short(400))
	l = append(l, api.Node{Kind: api.FormYes})
	l[0].Kids = append(l[0].Kids, 400)
	if s, e := policy.Put(l); e != api.ErrForm || s != "" {
		t.Errorf("401 nodes: %d bytes, %d", len(s), e)
	}
	l = []api.Node{{Kind: api.FormYes}}
	for range 40 {
		for k := range l {
			for n := range l[k].Kids {
				l[k].Kids[n]++
			}
		}
		l = append([]api.Node{{Kind: api.FormNot, Kids: []int{1}}}, l...)
	}
	if s, e := policy.Put(l); e != api.ErrForm || s != "" {
		t.Errorf("41 deep: %d bytes, %d", len(s), e)
	}
	if s, e := policy.Put(l[1:]); e == api.OK {
		t.Errorf("kids that lead one on: %q", s)
	}
}

// maker makes formulas that may be.
type maker struct {
	r     *rand.Rand
	left  int
	bound []string
}

func (m *maker) pick(l ...string) string { return l[m.r.Intn(len(l))] }

func (m *maker) compartment() string {
	if len(m.bound) > 0 && m.r.Intn(2) == 0 {
		return m.pick(m.bound...)
	}
	return m.pick("a", "b2", "long_name_of_16b", "yes")
}

func (m *maker) number(deep int) string {
	m.left--
	if m.left > 0 && deep < 39 {
		switch m.r.Intn(4) {
		case 0:
			return "( " + m.pick("add", "sub", "mul", "div", "min", "max") + " " + m.number(deep+1) + " " + m.number(deep+1) + " )"
		case 1:
			return "( " + m.pick("exports", "calls", "callers", "stack") + " " + m.compartment() + " )"
		case 2:
			return "( compartments )"
		}
	}
	return num.Put([]float64{m.r.NormFloat64(), math.Float64frombits(m.r.Uint64()), float64(m.r.Intn(100)), math.Inf(1), math.NaN(), math.Copysign(0, -1)}[m.r.Intn(6)])
}

func (m *maker) formula(deep int) string {
	m.left--
	if m.left <= 0 || deep >= 39 {
		return m.pick("yes", "no")
	}
	switch m.r.Intn(9) {
	case 0:
		return "( not " + m.formula(deep+1) + " )"
	case 1, 2:
		s := "( " + m.pick("and", "or") + " "
		for range m.r.Intn(6) {
			s += m.formula(deep+1) + "\n"
		}
		return s + ")"
	case 3:
		return "( if " + m.formula(deep+1) + "\n" + m.formula(deep+1) + " )"
	case 4, 5:
		v := m.pick("A", "B", "Abcdefg7")
		m.bound = append(m.bound, v)
		s := "( " + m.pick("all", "some") + " " + v + " " + m.formula(deep+1) + " )"
		m.bound = m.bound[:len(m.bound)-1]
		return s
	case 6:
		return "( " + m.pick("is", "call", "reach") + " " + m.compartment() + " " + m.compartment() + " )"
	case 7:
		return m.pick("( start "+m.compartment()+" )", "( export "+m.compartment()+" "+strings.Repeat("s", 1+m.r.Intn(32))+" )", "( device "+m.compartment()+" d )", "( read "+m.compartment()+" r )", "( write "+m.compartment()+" r )")
	}
	return "( " + m.pick("less", "most", "same") + " " + m.number(deep+1) + "\n" + m.number(deep+1) + " )"
}

// fit lays words so that no line is too long, and there are few of them.
func fit(text string) string {
	var b strings.Builder
	size := 0
	for _, w := range strings.Fields(text) {
		if size+len(w) > 98 {
			b.WriteByte('\n')
			size = 0
		}
		b.WriteString(w + " ")
		size += len(w) + 1
	}
	return b.String()
}

func sameNodes(a, b []api.Node) bool {
	return slices.EqualFunc(a, b, func(x, y api.Node) bool {
		same := num.Same(x.Value, y.Value) && slices.Equal(x.Kids, y.Kids)
		x.Value, y.Value, x.Kids, y.Kids = 0, 0, nil, nil
		return same && reflect.DeepEqual(x, y)
	})
}

// The nodes come back of their text, and of a text behind which a word is wrong nothing comes.
func TestTheNodesComeBack(t *testing.T) {
	r := rand.New(rand.NewSource(24))
	sizes := 0
	for range 3000 {
		m := maker{r: r, left: r.Intn(250)}
		text := fit(m.formula(1))
		l, e := policy.Read(text)
		if e != api.OK {
			t.Fatalf("%s: %d", text, e)
		}
		sizes = max(sizes, len(l))
		s, e := policy.Put(l)
		if e != api.OK || strings.Join(strings.Fields(s), " ") != strings.Join(strings.Fields(text), " ") {
			t.Fatalf("%s: %q, %d", text, s, e)
		}
		if s != laidOut(text) {
			t.Fatalf("%q is not laid as %q", s, laidOut(text))
		}
		back, e := policy.Read(s)
		if e != api.OK || !sameNodes(back, l) {
			t.Fatalf("%s: %+v, %d", s, back, e)
		}
		words := strings.Fields(text)
		words[r.Intn(len(words))] = []string{"maybe", "(", ")", "7", "A", "yes", "Zz"}[r.Intn(7)]
		l, e = policy.Read(fit(strings.Join(words, " ")))
		if (e != api.OK) != (len(l) == 0) {
			t.Fatalf("%d nodes, %d", len(l), e)
		}
	}
	if sizes < 100 {
		t.Errorf("at most %d nodes", sizes)
	}
}

// laidOut is the text of words in lines of at most 100 bytes, each as long as may be.
func laidOut(text string) string {
	s := ""
	for _, w := range strings.Fields(text) {
		last := s[strings.LastIndex(s, "\n")+1:]
		switch {
		case last == "":
			s += w
		case len(last)+1+len(w) <= 100:
			s += " " + w
		default:
			s += "\n" + w
		}
	}
	return s + "\n"
}

// What Read could answer of the longest names is put: all lines have room.
func TestLongestNames(t *testing.T) {
	text := "( and\n" + strings.Repeat("( export abcdefghijklmnop "+strings.Repeat("~", 32)+" )\n", 399) + ")"
	if l, e := policy.Read(text); e != api.ErrLimit || len(l) != 0 {
		t.Errorf("401 lines: %d nodes, %d", len(l), e)
	}
	text = strings.Replace(text, "( and\n", "( and ", 1)
	text = text[:len(text)-2] + " )"
	l, e := policy.Read(text)
	if e != api.OK || len(l) != 400 {
		t.Fatalf("%d nodes, %d", len(l), e)
	}
	s, e := policy.Put(l)
	if e != api.OK || s != laidOut(text) {
		t.Errorf("%d bytes, %d", len(s), e)
	}
}

// What is handed in stays as it is, and no two answers share anything.
func TestNothingIsShared(t *testing.T) {
	text := "( and ( not yes ) ( or no yes ) )"
	a, _ := policy.Read(text)
	b, _ := policy.Read(text)
	s, _ := policy.Put(a)
	if !reflect.DeepEqual(a, b) {
		t.Error("Put changed the nodes")
	}
	for k := range a {
		for n := range a[k].Kids {
			a[k].Kids[n] = 99
		}
		a[k].Kids = append(a[k].Kids, 98)
	}
	if back, _ := policy.Read(s); !reflect.DeepEqual(back, b) {
		t.Error("what was answered changed")
	}
}
