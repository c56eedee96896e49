package proper

import (
	"rota/api"
	"rota/word"
)

// first is the first number from begin on, up to end, that is refused, and why; 0 and OK, if none is.
func first(begin, end int, refuse func(n int) api.Errno) (int, api.Errno) {
	for n := begin; n < end; n++ {
		if e := refuse(n); e != api.OK {
			return n, e
		}
	}
	return 0, api.OK
}

// checkFuncs tells whether the functions part the code; else the number of the first that does not fit, or, if each does by itself, how many there are.
func checkFuncs(p api.Program) (int, api.Errno) {
	count := len(p.Funcs)
	n, e := first(0, count, func(n int) api.Errno {
		f := p.Funcs[n]
		if f.Begin != endAhead(p, n) || f.End <= f.Begin || f.End > len(p.Code) {
			return api.ErrFunc
		}
		return api.OK
	})
	if e == api.OK && (count == 0 || endAhead(p, count) != len(p.Code)) {
		return count, api.ErrFunc
	}
	return n, e
}

// endAhead is where the function ahead of number n ends, and so that one must begin.
func endAhead(p api.Program, n int) int {
	if n == 0 {
		return 0
	}
	return p.Funcs[n-1].End
}

// checkTables tells whether all tables may be; else the number of the first that may not.
func checkTables(p api.Program) (int, api.Errno) {
	return first(0, len(p.Tables), func(n int) api.Errno {
		cases := p.Tables[n].Cases
		if len(cases) > api.MaxCases {
			return api.ErrTable
		}
		_, e := first(0, len(cases), func(at int) api.Errno { return checkCase(cases[at]) })
		return e
	})
}

func checkCase(c api.Case) api.Errno {
	if !isRegister(c.Chan) || !isRegister(c.Val) || !isRegister(c.Ok) || c.Send && c.Ok != 0 {
		return api.ErrTable
	}
	return api.OK
}

func isRegister(n int) bool { return 0 <= n && n < api.Registers }

// checkWords tells whether all words may stand where they do; else the place of the first that may not. The functions must part the code.
func checkWords(p api.Program) (int, api.Errno) {
	for _, f := range p.Funcs {
		at, e := first(f.Begin, f.End, func(at int) api.Errno { return checkWord(p, f, at) })
		if e != api.OK {
			return at, e
		}
	}
	return 0, api.OK
}

// checkWord tells whether a word may stand where it does, in the function f.
func checkWord(p api.Program, f api.Func, at int) api.Errno {
	i, e := word.Decode(p.Code[at])
	switch {
	case e != api.OK:
		return api.ErrWord
	case hasTarget(i.Op) && (i.Imm < f.Begin || i.Imm >= f.End):
		return api.ErrTarget
	case (i.Op == api.OpCall || i.Op == api.OpSpawn) && i.Imm >= len(p.Funcs):
		return api.ErrFunc
	case i.Op == api.OpSelect && i.Imm >= len(p.Tables):
		return api.ErrTable
	case at == f.End-1 && !ending(i.Op):
		return api.ErrOut
	}
	return api.OK
}

// hasTarget tells whether an operation's number is a word.
func hasTarget(op int) bool {
	return op == api.OpJump || op == api.OpZero || op == api.OpSome
}

// ending tells whether an operation never goes on to the word behind it.
func ending(op int) bool {
	return op == api.OpJump || op == api.OpRet || op == api.OpExit || op == api.OpTrap
}
