package word

import "rota/api"

const (
	lastRegister = api.Registers - 1
	lastNumber   = 1<<16 - 1 // of a number that has no sign
)

// form is what a shape lets its fields be: from 0 to the greatest each, but the number from the least on. A field that the shape has not is let be 0 alone.
type form struct {
	a, b, c     int
	least, most int
}

// forms is the form of each shape.
var forms = [...]form{
	api.ShapeNone: {},
	api.ShapeA:    {a: lastRegister},
	api.ShapeAB:   {a: lastRegister, b: lastRegister},
	api.ShapeABC:  {a: lastRegister, b: lastRegister, c: lastRegister},
	api.ShapeI:    {most: lastNumber},
	api.ShapeAI:   {a: lastRegister, most: lastNumber},
	api.ShapeAS:   {a: lastRegister, least: -1 << 15, most: 1<<15 - 1},
}

// formOf is an operation's form; there is that operation.
func formOf(op int) form { return forms[numbers[op]&shapeMask] }

// fits tells whether all fields of an instruction are what they may be.
func (f form) fits(i api.Instr) bool {
	return 0 <= i.A && i.A <= f.a &&
		0 <= i.B && i.B <= f.b &&
		0 <= i.C && i.C <= f.c &&
		f.least <= i.Imm && i.Imm <= f.most
}

// low is the lowest 16 bits of a word as the fields C and Imm. They are read whole, so that what does not belong there is seen: it does not fit.
func (f form) low(bits uint16) (c, imm int) {
	switch {
	case f.c > 0:
		return int(bits), 0
	case f.least < 0:
		return 0, int(int16(bits))
	default:
		return 0, int(bits)
	}
}
