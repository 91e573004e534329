package image_test

import (
	"bytes"
	"encoding/binary"
	"math/rand"
	"reflect"
	"slices"
	"strings"
	"testing"

	"bulwark/api"
	"bulwark/capa"
	"bulwark/image"
	"bulwark/kit"
	"bulwark/link"
	"bulwark/plan"
)

const planText = `stack 256
trusted 4
share pool 40
compartment a
object a a.o
export a main 0 64
device a led 65280 8
give a pool rw
import a a main
start a main
`

const text = `
.section .text 6 4
.global main
main: addi c10 c0 7
.section .data 3 8
.word 1
.bytes 36
.word 2
`

func linked(t *testing.T) api.Image {
	t.Helper()
	i, f := link.Link(planText, []api.File{kit.File("a.o", text)})
	if f != (api.Fault{}) {
		t.Fatalf("%+v", f)
	}
	return i
}

// bare is an image of nothing but a plan.
func bare(t *testing.T) api.Image {
	t.Helper()
	p, _, e := plan.Read("stack 64\ntrusted 1\ncompartment a\nexport a m 0 0\nstart a m\n")
	if e != api.OK {
		t.Fatal(e)
	}
	return api.Image{Bytes: make([]byte, 65280), Plan: p}
}

func le(l ...int) []byte {
	var b []byte
	for _, n := range l {
		b = binary.LittleEndian.AppendUint16(b, uint16(n))
	}
	return b
}

const bareText = "stack 64\ntrusted 1\ncompartment a\nexport a m 0 0\nstart a m\n"

func TestPutForm(t *testing.T) {
	i := bare(t)
	i.Regions = []api.Region{{Kind: 1, Owner: -1, At: 64, N: 8}, {Kind: 7, Owner: 15, At: 65280, N: 0}, {Kind: 4, Owner: 0, At: 0, N: 65280}}
	i.Bytes[9], i.Bytes[16], i.Bytes[65279] = 1, 2, 3
	i.Tags = []int{4, 8159}
	i.Start.Pcc = api.Cap{Tag: true, Addr: 0x01020304, Perms: 29, Bounds: api.Bounds{E: 3, B: 5, T: 9}}
	i.Start.Regs[1], i.Start.Regs[2], i.Start.Regs[3] = capa.Int(1), capa.Int(2), capa.Int(3)
	i.Start.Mtcc, i.Start.Mtdc, i.Start.On = capa.Int(4), capa.Int(5), true
	want := append([]byte{0x62, 0x77, 0x6b, 1}, le(len(bareText))...)
	want = append(want, bareText...)
	want = append(want, 3, 1, 255, 64, 0, 8, 0, 0, 0, 7, 15, 0, 255, 0, 0, 0, 0, 4, 0, 0, 0, 0, 255, 0, 0)
	want = append(want, le(3, 8, 16)...)
	want = append(want, 0, 1, 0, 0, 0, 0, 0, 0, 2, 0, 0, 0, 0, 0, 0, 0)
	want = append(want, le(32, 8)...)
	want = append(want, make([]byte, 8)...)
	want = append(want, le(65272, 8)...)
	want = append(want, 0, 0, 0, 0, 0, 0, 0, 3)
	want = append(want, le(2, 4, 8159)...)
	pcc := capa.Bytes(i.Start.Pcc)
	want = append(append(want, pcc[:]...), 1)
	for n := range byte(5) {
		want = append(want, n+1, 0, 0, 0, 0, 0, 0, 0, 0)
	}
	want = append(want, 1)
	got, e := image.Put(i)
	if e != api.OK || !bytes.Equal(got, want) {
		t.Errorf("%d\n%x\n%x", e, got, want)
	}
	back, e := image.Get(want)
	if e != api.OK || !reflect.DeepEqual(back, i) {
		t.Errorf("%d", e)
	}
}

func TestPutRefuses(t *testing.T) {
	tagged := func(c api.Cap) api.Cap { c.Tag = true; return c }
	for name, c := range map[string]struct {
		change func(i *api.Image)
		ok     bool
	}{
		"as it is":        {func(i *api.Image) {}, true},
		"no plan":         {func(i *api.Image) { i.Plan = api.Plan{} }, false},
		"too few bytes":   {func(i *api.Image) { i.Bytes = i.Bytes[1:] }, false},
		"too many bytes":  {func(i *api.Image) { i.Bytes = append(i.Bytes, 0) }, false},
		"tags that rise":  {func(i *api.Image) { i.Tags = []int{0, 1, 8159} }, true},
		"tags that stand": {func(i *api.Image) { i.Tags = []int{1, 1} }, false},
		"tags that fall":  {func(i *api.Image) { i.Tags = []int{2, 1} }, false},
		"tag 8160":        {func(i *api.Image) { i.Tags = []int{8160} }, false},
		"tag -1":          {func(i *api.Image) { i.Tags = []int{-1} }, false},
		"64 regions":      {func(i *api.Image) { i.Regions = slices.Repeat([]api.Region{{Kind: 1}}, 64) }, true},
		"65 regions":      {func(i *api.Image) { i.Regions = slices.Repeat([]api.Region{{Kind: 1}}, 65) }, false},
		"kind 0":          {func(i *api.Image) { i.Regions = []api.Region{{Kind: 0}} }, false},
		"kind 8":          {func(i *api.Image) { i.Regions = []api.Region{{Kind: 8}} }, false},
		"owner -1":        {func(i *api.Image) { i.Regions = []api.Region{{Kind: 1, Owner: -1}} }, true},
		"owner -2":        {func(i *api.Image) { i.Regions = []api.Region{{Kind: 1, Owner: -2}} }, false},
		"owner 15":        {func(i *api.Image) { i.Regions = []api.Region{{Kind: 1, Owner: 15}} }, true},
		"owner 16":        {func(i *api.Image) { i.Regions = []api.Region{{Kind: 1, Owner: 16}} }, false},
		"ends at 65280":   {func(i *api.Image) { i.Regions = []api.Region{{Kind: 1, At: 65272, N: 8}} }, true},
		"ends above":      {func(i *api.Image) { i.Regions = []api.Region{{Kind: 1, At: 65273, N: 8}} }, false},
		"goes round":      {func(i *api.Image) { i.Regions = []api.Region{{Kind: 1, At: 8, N: 1<<32 - 8}} }, false},
		"c0":              {func(i *api.Image) { i.Start.Regs[0].Addr = 1 }, false},
		"c4":              {func(i *api.Image) { i.Start.Regs[4].Addr = 1 }, false},
		"c15":             {func(i *api.Image) { i.Start.Regs[15].Tag = true }, false},
		"c2":              {func(i *api.Image) { i.Start.Regs[2] = tagged(capa.Int(7)) }, true},
		"Mscratch":        {func(i *api.Image) { i.Start.Mscratch.Addr = 1 }, false},
		"Mepcc":           {func(i *api.Image) { i.Start.Mepcc.Addr = 1 }, false},
		"Cause":           {func(i *api.Image) { i.Start.Cause = 1 }, false},
		"Was":             {func(i *api.Image) { i.Start.Was = true }, false},
		"Halted":          {func(i *api.Image) { i.Start.Halted = true }, false},
		"off":             {func(i *api.Image) { i.Start.On = false }, true},
		"perms 128":       {func(i *api.Image) { i.Start.Pcc.Perms = 128 }, false},
		"type 7":          {func(i *api.Image) { i.Start.Mtdc.Type = 7 }, true},
		"type 8":          {func(i *api.Image) { i.Start.Mtdc.Type = 8 }, false},
		"E 16":            {func(i *api.Image) { i.Start.Mtcc.Bounds.E = 16 }, false},
		"B 512":           {func(i *api.Image) { i.Start.Regs[1].Bounds.B = 512 }, false},
		"T 512":           {func(i *api.Image) { i.Start.Regs[3].Bounds.T = 512 }, false},
		"T 511":           {func(i *api.Image) { i.Start.Regs[3].Bounds.T = 511 }, true},
	} {
		i := linked(t)
		c.change(&i)
		b, e := image.Put(i)
		if c.ok != (e == api.OK) || !c.ok && (e != api.ErrArg || len(b) != 0) {
			t.Errorf("%s: %d bytes, %d", name, len(b), e)
		}
		if !c.ok {
			continue
		}
		if back, e := image.Get(b); e != api.OK || !image.Same(back, i) {
			t.Errorf("%s: does not come back: %d", name, e)
		}
	}
}

func TestGetRefuses(t *testing.T) {
	good, e := image.Put(linked(t))
	if e != api.OK {
		t.Fatal(e)
	}
	for n := range len(good) {
		if i, e := image.Get(good[:n]); e != api.ErrShort || !reflect.DeepEqual(i, api.Image{}) {
			t.Fatalf("%d bytes: %d", n, e)
		}
	}
	textAt, regionsAt := 6, 6+int(binary.LittleEndian.Uint16(good[4:]))
	for name, c := range map[string]struct {
		b    []byte
		want api.Errno
	}{
		"none":               {nil, api.ErrShort},
		"three others":       {[]byte("xxx"), api.ErrShort},
		"four others":        {[]byte{0x62, 0x77, 0x6b, 2}, api.ErrForm},
		"four alone":         {[]byte{0x62, 0x77, 0x6b, 1}, api.ErrShort},
		"others, very short": {[]byte("xxxx"), api.ErrForm},
		"200001 bytes":       {make([]byte, 200001), api.ErrLimit},
		"200000 bytes":       {make([]byte, 200000), api.ErrForm},
		"a byte behind":      {append(slices.Clone(good), 0), api.ErrForm},
		"another text":       {append(append(slices.Clone(good[:textAt]), bytes.Replace(good[textAt:regionsAt], []byte("stack 256"), []byte("stack 0x4"), 1)...), good[regionsAt:]...), api.ErrForm},
		"text of two blanks": {append(append(append([]byte("bwk\x01"), le(regionsAt-6+1)...), strings.Replace(string(good[textAt:regionsAt]), "stack 256", "stack  256", 1)...), good[regionsAt:]...), api.ErrForm},
	} {
		if i, e := image.Get(c.b); e != c.want || !reflect.DeepEqual(i, api.Image{}) {
			t.Errorf("%s: %d", name, e)
		}
	}
}

// raw puts bytes together behind a plan: regions, runs, tags, and a start of noughts.
func raw(regions []byte, runs []byte, tags []byte, end ...byte) []byte {
	b := append([]byte("bwk\x01"), le(len(bareText))...)
	b = append(append(append(append(b, bareText...), regions...), runs...), tags...)
	return append(append(b, make([]byte, 54)...), end...)
}

func TestGetAsksForPutsForm(t *testing.T) {
	none := []byte{0, 0}
	for name, c := range map[string]struct {
		b    []byte
		want api.Errno
	}{
		"fine":              {raw([]byte{0}, none, none, 1), api.OK},
		"off":               {raw([]byte{0}, none, none, 0), api.OK},
		"On is 2":           {raw([]byte{0}, none, none, 2), api.ErrForm},
		"no On":             {raw([]byte{0}, none, none), api.ErrShort},
		"a region":          {raw([]byte{1, 1, 255, 64, 0, 8, 0, 0, 0}, none, none, 1), api.OK},
		"owner 16":          {raw([]byte{1, 1, 16, 64, 0, 8, 0, 0, 0}, none, none, 1), api.ErrForm},
		"owner 254":         {raw([]byte{1, 1, 254, 64, 0, 8, 0, 0, 0}, none, none, 1), api.ErrForm},
		"kind 0":            {raw([]byte{1, 0, 255, 64, 0, 8, 0, 0, 0}, none, none, 1), api.ErrForm},
		"a region above":    {raw([]byte{1, 1, 255, 64, 0, 255, 255, 0, 0}, none, none, 1), api.ErrForm},
		"a run":             {raw([]byte{0}, append(le(1, 8, 8), 0, 0, 0, 1, 0, 0, 0, 0), none, 1), api.OK},
		"a run of noughts":  {raw([]byte{0}, append(le(1, 8, 8), 0, 0, 0, 0, 0, 0, 0, 0), none, 1), api.ErrForm},
		"with a tag":        {raw([]byte{0}, append(le(1, 8, 8), 0, 0, 0, 0, 0, 0, 0, 0), le(1, 1), 1), api.OK},
		"a tag alone":       {raw([]byte{0}, none, le(1, 1), 1), api.ErrForm},
		"a run that is cut": {raw([]byte{0}, append(append(le(2, 8, 8), 1, 0, 0, 0, 0, 0, 0, 0), append(le(16, 8), 1, 0, 0, 0, 0, 0, 0, 0)...), none, 1), api.ErrForm},
		"runs that fall":    {raw([]byte{0}, append(append(le(2, 32, 8), 1, 0, 0, 0, 0, 0, 0, 0), append(le(8, 8), 1, 0, 0, 0, 0, 0, 0, 0)...), none, 1), api.ErrForm},
		"half a granule":    {raw([]byte{0}, append(le(1, 8, 4), 1, 0, 0, 0), none, 1), api.ErrForm},
		"between granules":  {raw([]byte{0}, append(le(1, 12, 8), 1, 0, 0, 0, 1, 0, 0, 0), none, 1), api.ErrForm},
		"a run of nothing":  {raw([]byte{0}, le(1, 8, 0), none, 1), api.ErrForm},
		"a run above":       {raw([]byte{0}, append(le(1, 65280, 8), 1, 0, 0, 0, 1, 0, 0, 0), none, 1), api.ErrForm},
		"tags that fall":    {raw([]byte{0}, append(le(1, 8, 16), 1, 0, 0, 0, 0, 0, 0, 0, 1, 0, 0, 0, 0, 0, 0, 0), le(2, 2, 1), 1), api.ErrForm},
		"tag 8160":          {raw([]byte{0}, none, le(1, 8160), 1), api.ErrForm},
		"too many runs":     {raw([]byte{0}, le(60000), none, 1), api.ErrShort},
	} {
		i, e := image.Get(c.b)
		if e != c.want {
			t.Errorf("%s: %d", name, e)
		}
		if again, pe := image.Put(i); e == api.OK && (pe != api.OK || !bytes.Equal(again, c.b)) {
			t.Errorf("%s: put as other bytes", name)
		}
	}
	bad := raw([]byte{0}, none, none, 1)
	bad[len(bad)-2] = 2
	if _, e := image.Get(bad); e != api.ErrForm {
		t.Errorf("a tag of 2: %d", e)
	}
}

func TestComesBack(t *testing.T) {
	r := rand.New(rand.NewSource(1))
	for range 60 {
		i := linked(t)
		for range r.Intn(40) {
			i.Bytes[r.Intn(65280)] = byte(r.Intn(3))
		}
		for g := range 8160 {
			if r.Intn(500) == 0 && !slices.Contains(i.Tags, g) {
				i.Tags = append(i.Tags, g)
			}
		}
		slices.Sort(i.Tags)
		b, e := image.Put(i)
		if e != api.OK {
			t.Fatal(e)
		}
		back, e := image.Get(b)
		if e != api.OK || !image.Same(back, i) || !reflect.DeepEqual(back, i) {
			t.Fatal("does not come back")
		}
		for range 50 {
			c := slices.Clone(b)
			c[r.Intn(len(c))] ^= byte(1 << r.Intn(8))
			j, e := image.Get(c)
			if again, pe := image.Put(j); e == api.OK && (pe != api.OK || !bytes.Equal(again, c)) {
				t.Fatal("is got, and put as other bytes")
			}
		}
	}
}

func TestSame(t *testing.T) {
	empty := linked(t)
	empty.Plan.Compartments[0].Imports = append([]api.Import{}, empty.Plan.Compartments[0].Imports...)
	if !image.Same(linked(t), empty) || !image.Same(api.Image{}, api.Image{Regions: []api.Region{}, Bytes: []byte{}, Tags: []int{}, Plan: api.Plan{Shares: []api.Share{}}}) {
		t.Error("nil and empty are the same")
	}
	for k, change := range []func(i *api.Image){
		func(i *api.Image) { i.Regions[0].N++ }, func(i *api.Image) { i.Bytes[70]++ }, func(i *api.Image) { i.Tags = i.Tags[1:] }, func(i *api.Image) { i.Start.On = false },
		func(i *api.Image) { i.Start.Regs[9].Addr++ }, func(i *api.Image) { i.Plan.Stack++ }, func(i *api.Image) { i.Plan.Trusted++ }, func(i *api.Image) { i.Plan.Start++ }, func(i *api.Image) { i.Plan.Main = "x" },
		func(i *api.Image) { i.Plan.Shares[0].N++ }, func(i *api.Image) { i.Plan.Compartments[0].Name = "b" }, func(i *api.Image) { i.Plan.Compartments[0].Files[0].Archive = true },
		func(i *api.Image) { i.Plan.Compartments[0].Exports[0].Args++ }, func(i *api.Image) { i.Plan.Compartments[0].Imports[0].From++ }, func(i *api.Image) { i.Plan.Compartments[0].Devices[0].N++ },
		func(i *api.Image) { i.Plan.Compartments[0].Gives[0].Write = false },
	} {
		i := linked(t)
		change(&i)
		if image.Same(i, linked(t)) || image.Same(linked(t), i) {
			t.Errorf("%d: the same", k)
		}
	}
}

func TestNewMemory(t *testing.T) {
	b, _ := image.Put(linked(t))
	was := slices.Clone(b)
	i, _ := image.Get(b)
	for k := range i.Bytes {
		i.Bytes[k] = 99
	}
	if !bytes.Equal(b, was) {
		t.Error("an image shares memory with its bytes")
	}
}
