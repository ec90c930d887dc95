package text_test

import (
	"math/rand"
	"strings"
	"testing"

	"flagon/api"
	"flagon/module"
	"flagon/text"
)

const example = "flagon\ntype w -> w\nglobal l const -1\nmemory 1 1\nfunc 0 l\n  get 0\n  brtable 0 0\n  end\ndata 16 07\nexport f; 0\n"

func exampleModule() api.Module {
	return api.Module{
		Types:   []api.Sig{{Params: "w", Results: "w"}},
		Globals: []api.Global{{Letter: 'l', Value: 1<<64 - 1}},
		First:   1, Most: 1,
		Functions: []api.Function{{Locals: "l", Code: []api.Ins{{Op: 0x12}, {Op: 0x09, L: []int{0, 0}}, {Op: 0x06}}}},
		Data:      []api.Data{{At: 16, B: []byte{7}}},
		Exports:   []api.Export{{Name: "f;"}},
	}
}

// told asks for that text of m.
func told(t *testing.T, m api.Module, want string) {
	t.Helper()
	if s, e := text.Print(m); s != want || e != api.OK {
		t.Errorf("P6.1: %v: %q, %d, not %q", m, s, e, want)
	}
}

func TestPrintExample(t *testing.T) {
	told(t, exampleModule(), example)
	told(t, api.Module{}, "flagon\nmemory 0 0\n")
}

func TestPrintEachKind(t *testing.T) {
	told(t, api.Module{Types: []api.Sig{{}, {Params: "wl"}, {Results: "lw"}}, Hosts: []int{2, 0}, First: 2, Most: 64}, "flagon\ntype - -> -\ntype wl -> -\ntype - -> lw\nextern 2\nextern 0\nmemory 2 64\n")
	told(t, api.Module{Globals: []api.Global{{Letter: 'w', Mutable: true, Value: 1<<32 - 1}, {Letter: 'w', Value: 1 << 31}, {Letter: 'w', Value: 1<<31 - 1}, {Letter: 'l', Mutable: true, Value: 1<<32 - 1}, {Letter: 'l', Value: 1 << 63}}}, "flagon\nglobal w var -1\nglobal w const -2147483648\nglobal w const 2147483647\nglobal l var 4294967295\nglobal l const -9223372036854775808\nmemory 0 0\n")
	told(t, api.Module{Types: []api.Sig{{}}, Functions: []api.Function{{}, {Locals: "wl"}}, Exports: []api.Export{{Name: "-", Function: 1}, {Name: ";"}}}, "flagon\ntype - -> -\nmemory 0 0\nfunc 0 -\nfunc 0 wl\nexport - 1\nexport ; 0\n")
	told(t, api.Module{First: 1, Most: 1, Data: []api.Data{{B: []byte{0, 0x0f, 0xf0, 0xab}}, {At: 4095, B: []byte{0xff}}}}, "flagon\nmemory 1 1\ndata 0 000ff0ab\ndata 4095 ff\n")
	told(t, rich(), joined(lines(rich())))
}

func TestPrintEachInstruction(t *testing.T) {
	all := instructions()
	if len(all) != 90 {
		t.Fatalf("%d instructions", len(all))
	}
	for _, row := range all {
		x, behind := api.Ins{Op: row.op}, ""
		switch row.takes {
		case number:
			x.A, behind = 305, " 305"
		case labels:
			x.L, behind = []int{3, 0, 21}, " 3 0 21"
		}
		told(t, api.Module{Types: []api.Sig{{}}, Functions: []api.Function{{Code: []api.Ins{x, x}}}}, "flagon\ntype - -> -\nmemory 0 0\nfunc 0 -\n  "+row.word+behind+"\n  "+row.word+behind+"\n")
	}
}

// changed is rich with one thing made wrong, and whether a text can say that at all.
type changed struct {
	name    string
	e       api.Errno
	sayable bool
	change  func(m *api.Module)
}

func wrongs() []changed {
	return []changed{
		{"no letters in a type", api.ErrType, false, func(m *api.Module) { m.Types[1].Params = "x" }},
		{"a long type", api.ErrLong, false, func(m *api.Module) { m.Types[1].Results = "wwwwwwwww" }},
		{"a type twice", api.ErrTwice, true, func(m *api.Module) { m.Types[1] = m.Types[0] }},
		{"many types", api.ErrMany, true, func(m *api.Module) { m.Types = make([]api.Sig, 65) }},
		{"a host of no type", api.ErrIndex, true, func(m *api.Module) { m.Hosts[1] = 4 }},
		{"a host below 0", api.ErrIndex, true, func(m *api.Module) { m.Hosts[1] = -1 }},
		{"many hosts", api.ErrMany, true, func(m *api.Module) { m.Hosts = make([]int, 33) }},
		{"a global of no letter", api.ErrType, false, func(m *api.Module) { m.Globals[0].Letter = 'x' }},
		{"a wide w", api.ErrRange, false, func(m *api.Module) { m.Globals[1].Value = 1 << 32 }},
		{"first below 0", api.ErrRange, true, func(m *api.Module) { m.First = -1 }},
		{"first above most", api.ErrRange, true, func(m *api.Module) { m.Most = 0 }},
		{"most above the limit", api.ErrRange, true, func(m *api.Module) { m.Most = 65 }},
		{"a function of no type", api.ErrIndex, true, func(m *api.Module) { m.Functions[1].Type = 4 }},
		{"a function's type below 0", api.ErrIndex, true, func(m *api.Module) { m.Functions[1].Type = -1 << 63 }},
		{"locals that are none", api.ErrType, true, func(m *api.Module) { m.Functions[1].Locals = "w-" }},
		{"locals as a mark of none", api.ErrType, true, func(m *api.Module) { m.Functions[1].Locals = "--" }},
		{"many locals", api.ErrLong, true, func(m *api.Module) { m.Functions[0].Locals = strings.Repeat("w", 64) }},
		{"many functions", api.ErrMany, true, func(m *api.Module) { m.Functions = make([]api.Function, 129) }},
		{"no opcode", api.ErrOp, false, func(m *api.Module) { m.Functions[0].Code[0].Op = 0x0d }},
		{"a number where there is none", api.ErrRange, false, func(m *api.Module) { m.Functions[0].Code[2].A = 1 }},
		{"a number below 0", api.ErrRange, true, func(m *api.Module) { m.Functions[0].Code[0].A = -1 }},
		{"a wide w.const", api.ErrRange, true, func(m *api.Module) { m.Functions[2].Code[0].A = 1 << 31 }},
		{"a wide offset", api.ErrRange, true, func(m *api.Module) { m.Functions[2].Code[2].A = 1 << 32 }},
		{"no labels", api.ErrRange, true, func(m *api.Module) { m.Functions[0].Code[1].L = nil }},
		{"many labels", api.ErrRange, true, func(m *api.Module) { m.Functions[0].Code[1].L = make([]int, 17) }},
		{"a label below 0", api.ErrRange, true, func(m *api.Module) { m.Functions[0].Code[1].L[2] = -1 }},
		{"much code", api.ErrMany, true, func(m *api.Module) { m.Functions[1].Code = make([]api.Ins, 2049) }},
		{"data beyond the memory", api.ErrRange, true, func(m *api.Module) { m.Data[1].At = 4097 }},
		{"data below 0", api.ErrRange, true, func(m *api.Module) { m.Data[0].At = -1 }},
		{"data that touch", api.ErrOrder, true, func(m *api.Module) { m.Data[1].At = 17 }},
		{"data over the end", api.ErrLong, true, func(m *api.Module) { m.Data[1].At = 4093 }},
		{"data of nothing", api.ErrRange, false, func(m *api.Module) { m.Data[1].B = nil }},
		{"a name of great bytes", api.ErrName, true, func(m *api.Module) { m.Exports[3].Name = "\u00e9" }},
		{"a name with a blank", api.ErrName, false, func(m *api.Module) { m.Exports[3].Name = "g g" }},
		{"no name", api.ErrName, false, func(m *api.Module) { m.Exports[3].Name = "" }},
		{"a long name", api.ErrLong, true, func(m *api.Module) { m.Exports[3].Name = strings.Repeat("x", 33) }},
		{"names out of order", api.ErrOrder, true, func(m *api.Module) { m.Exports[3].Name = "f;" }},
		{"an export of no function", api.ErrIndex, true, func(m *api.Module) { m.Exports[3].Function = 3 }},
	}
}

// TestWhatCheckRefuses: printed, and, where a text can say it, parsed; with the first error, though more of them apply.
func TestWhatCheckRefuses(t *testing.T) {
	for _, x := range wrongs() {
		for _, more := range []bool{false, true} {
			m := rich()
			x.change(&m)
			if more {
				m.Exports = append(m.Exports, api.Export{Name: "!"})
			}
			if s, e := text.Print(m); s != "" || e != x.e || e != module.Check(m) {
				t.Errorf("P6.1: %s: %.60q, %d, not %d", x.name, s, e, x.e)
			}
			if x.sayable {
				refused(t, "P6.2: "+x.name, joined(lines(m)), x.e, 0)
			}
		}
	}
}

// withData: its bytes are 17 more than its data: the first five, three empty lists, the two numbers of pages, no function, one data with its place and three bytes of length, no export.
func withData(n int) api.Module {
	return api.Module{First: 64, Most: 64, Data: []api.Data{{B: make([]byte, n)}}}
}

func TestModuleOfTooManyBytes(t *testing.T) {
	fits, tooBig := withData(api.MaxModule-17), withData(api.MaxModule-16)
	told(t, fits, joined(lines(fits)))
	taken(t, "P6.2", joined(lines(fits)), fits)
	if s, e := text.Print(tooBig); s != "" || e != api.ErrLong {
		t.Errorf("P6.1: %.60q, %d", s, e)
	}
	refused(t, "P6.2", joined(lines(tooBig)), api.ErrLong, 0)
}

func TestPrintSomeModules(t *testing.T) {
	r := rand.New(rand.NewSource(61))
	for range 2000 {
		m := someModule(r)
		told(t, m, joined(lines(m)))
	}
}
