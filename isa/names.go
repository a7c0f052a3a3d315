package isa

import "warden/api"

// form: what an Op is called, and which fields it uses, a letter each.
type form struct {
	name, shape string
}

var forms = [Ops]form{
	Movi: {"movi", "au"},
	Movt: {"movt", "au"},
	Mov:  {"mov", "ab"},
	Add:  {"add", "abc"},
	Sub:  {"sub", "abc"},
	Mul:  {"mul", "abc"},
	Div:  {"div", "abc"},
	And:  {"and", "abc"},
	Or:   {"or", "abc"},
	Xor:  {"xor", "abc"},
	Shl:  {"shl", "abc"},
	Shr:  {"shr", "abc"},
	Sar:  {"sar", "abc"},
	Addi: {"addi", "abs"},
	Ldr:  {"ldr", "abs"},
	Str:  {"str", "abs"},
	Ldx:  {"ldx", "abc"},
	Stx:  {"stx", "abc"},
	Cmp:  {"cmp", "ab"},
	Cmpi: {"cmpi", "as"},
	B:    {"b", "ko"},
	Bl:   {"bl", "o"},
	Br:   {"br", "a"},
	Svc:  {"svc", "u"},
}

var condNames = [Conds]string{Always: "al", Eq: "eq", Ne: "ne", Lt: "lt", Ge: "ge", Lo: "lo", Hs: "hs"}

// Shape: what an Op uses: letters in the order in which a text has them: a b c registers, u a number 0 to 65535, s a number with a sign, o an offset of words, k a condition; "" for no Op.
func Shape(op Op) string {
	if !isOp(op) {
		return ""
	}
	return forms[op].shape
}

// Name: of an Op, in small letters (movi, ..); "" for none.
func Name(op Op) string {
	if !isOp(op) {
		return ""
	}
	return forms[op].name
}

// Named: the Op of that name. ErrCode.
func Named(name string) (Op, api.Errno) {
	// From the first one on: number 0 is no Op, and must not be the one of the empty name.
	for op := Movi; op < Ops; op++ {
		if forms[op].name == name {
			return op, api.OK
		}
	}
	return 0, api.ErrCode
}

// CondName: of a condition (al eq ne lt ge lo hs); "" for none.
func CondName(c Cond) string {
	if c < Always || c >= Conds {
		return ""
	}
	return condNames[c]
}

// CondNamed: the condition of that name. ErrCode.
func CondNamed(name string) (Cond, api.Errno) {
	for c := range Conds {
		if condNames[c] == name {
			return c, api.OK
		}
	}
	return 0, api.ErrCode
}

func isOp(op Op) bool { return op >= Movi && op < Ops }
