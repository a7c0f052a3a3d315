package isa_test

import (
	"math"
	"strings"
	"testing"

	"warden/api"
	"warden/isa"
)

// row: a line of the chapter's table.
type row struct {
	op          isa.Op
	number      int
	name, shape string
}

func table() []row {
	return []row{
		{isa.Movi, 1, "movi", "au"}, {isa.Movt, 2, "movt", "au"}, {isa.Mov, 3, "mov", "ab"},
		{isa.Add, 4, "add", "abc"}, {isa.Sub, 5, "sub", "abc"}, {isa.Mul, 6, "mul", "abc"}, {isa.Div, 7, "div", "abc"},
		{isa.And, 8, "and", "abc"}, {isa.Or, 9, "or", "abc"}, {isa.Xor, 10, "xor", "abc"},
		{isa.Shl, 11, "shl", "abc"}, {isa.Shr, 12, "shr", "abc"}, {isa.Sar, 13, "sar", "abc"},
		{isa.Addi, 14, "addi", "abs"}, {isa.Ldr, 15, "ldr", "abs"}, {isa.Str, 16, "str", "abs"},
		{isa.Ldx, 17, "ldx", "abc"}, {isa.Stx, 18, "stx", "abc"}, {isa.Cmp, 19, "cmp", "ab"}, {isa.Cmpi, 20, "cmpi", "as"},
		{isa.B, 21, "b", "ko"}, {isa.Bl, 22, "bl", "o"}, {isa.Br, 23, "br", "a"}, {isa.Svc, 24, "svc", "u"},
	}
}

func condNames() []string { return []string{"al", "eq", "ne", "lt", "ge", "lo", "hs"} }

// noOps: numbers beside the Ops; some are an Op's when their upper bits get lost.
func noOps() []int {
	return []int{0, -1, -3, -24, 25, 26, 31, 32, 33, 63, 64, 65, 255, 256, 257, 1<<16 + 1, 1<<32 + 1, -1<<32 + 24, math.MaxInt32, math.MinInt32, math.MaxInt, math.MinInt, math.MinInt + 1}
}

func TestNumbersOfOpsAndConditions(t *testing.T) {
	for _, r := range table() {
		if int(r.op) != r.number {
			t.Errorf("types: the Op %s is number %d, want %d", r.name, r.op, r.number)
		}
	}
	if isa.Ops != 25 || len(table()) != 24 {
		t.Errorf("types: Ops is %d", isa.Ops)
	}
	for want, c := range []isa.Cond{isa.Always, isa.Eq, isa.Ne, isa.Lt, isa.Ge, isa.Lo, isa.Hs, isa.Conds} {
		if int(c) != want {
			t.Errorf("types: condition %d has the number %d", want, c)
		}
	}
}

func TestNamesAndShapes(t *testing.T) {
	for _, r := range table() {
		op := isa.Op(r.number)
		if got := isa.Name(op); got != r.name {
			t.Errorf("P5.1: Name(%d) = %q, want %q", op, got, r.name)
		}
		if got := isa.Shape(op); got != r.shape {
			t.Errorf("P5.1: Shape(%s) = %q, want %q", r.name, got, r.shape)
		}
		if got, e := isa.Named(r.name); got != op || e != api.OK {
			t.Errorf("P5.1: Named(%q) = %d, %d, want %d", r.name, got, e, op)
		}
	}
	for _, n := range noOps() {
		if name, shape := isa.Name(isa.Op(n)), isa.Shape(isa.Op(n)); name != "" || shape != "" {
			t.Errorf("P5.1: of the number %d, which is no Op: Name %q, Shape %q", n, name, shape)
		}
	}
}

func TestConditionNames(t *testing.T) {
	for c, name := range condNames() {
		if got := isa.CondName(isa.Cond(c)); got != name {
			t.Errorf("P5.1: CondName(%d) = %q, want %q", c, got, name)
		}
		if got, e := isa.CondNamed(name); got != isa.Cond(c) || e != api.OK {
			t.Errorf("P5.1: CondNamed(%q) = %d, %d, want %d", name, got, e, c)
		}
	}
	for _, n := range []int{-1, -7, 7, 8, 15, 16, 256, 1 << 32, 1<<32 + 6, -1 << 32, math.MaxInt, math.MinInt} {
		if got := isa.CondName(isa.Cond(n)); got != "" {
			t.Errorf("P5.1: CondName(%d) = %q", n, got)
		}
	}
}

// wrongNames: what is near the names, and none of either kind.
func wrongNames() []string {
	out := []string{"", " ", "nop", "Always", "Ops", "ops", "21", "\x00", "é", "\xff"}
	names := condNames()
	for _, r := range table() {
		names = append(names, r.name)
	}
	for _, n := range names {
		out = append(out, strings.ToUpper(n), strings.ToUpper(n[:1])+n[1:], n+" ", " "+n, n+"\n", n+"\x00", "\x00"+n, n+"_", n+n)
	}
	return out
}

func TestNamesThatThereAreNot(t *testing.T) {
	for _, name := range wrongNames() {
		if op, e := isa.Named(name); op != 0 || e != api.ErrCode {
			t.Errorf("P5.1: Named(%q) = %d, %d, want 0, ErrCode", name, op, e)
		}
		if c, e := isa.CondNamed(name); c != 0 || e != api.ErrCode {
			t.Errorf("P5.1: CondNamed(%q) = %d, %d, want 0, ErrCode", name, c, e)
		}
	}
	for _, name := range condNames() {
		if op, e := isa.Named(name); op != 0 || e != api.ErrCode {
			t.Errorf("P5.1: Named(%q), of a condition, = %d, %d", name, op, e)
		}
	}
	for _, r := range table() {
		if c, e := isa.CondNamed(r.name); c != 0 || e != api.ErrCode {
			t.Errorf("P5.1: CondNamed(%q), of an Op, = %d, %d", r.name, c, e)
		}
	}
}

// letters: calls visit with every text of small letters that is no longer than that.
func letters(longest int, visit func(string)) {
	var grow func(s string)
	grow = func(s string) {
		visit(s)
		if len(s) < longest {
			for c := 'a'; c <= 'z'; c++ {
				grow(s + string(c))
			}
		}
	}
	grow("")
}

func TestNoOtherShortNames(t *testing.T) {
	ops, conds := map[string]isa.Op{}, map[string]isa.Cond{}
	for _, r := range table() {
		ops[r.name] = isa.Op(r.number)
	}
	for c, name := range condNames() {
		conds[name] = isa.Cond(c)
	}
	expected := func(known bool) api.Errno {
		if known {
			return api.OK
		}
		return api.ErrCode
	}
	letters(4, func(s string) {
		want, known := ops[s]
		if op, e := isa.Named(s); op != want || e != expected(known) {
			t.Errorf("P5.1: Named(%q) = %d, %d", s, op, e)
		}
		cond, known := conds[s]
		if c, e := isa.CondNamed(s); c != cond || e != expected(known) {
			t.Errorf("P5.1: CondNamed(%q) = %d, %d", s, c, e)
		}
	})
}
