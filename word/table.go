package word

import "rota/api"

// Of the number that tells of an operation the lowest bits are its shape; the cost comes above it, as so many ticks.
const (
	shapeMask = 1<<3 - 1
	ticks     = shapeMask + 1
	costMask  = 1<<4 - 1
)

// Which of its registers an operation reads or writes, a bit each, above the cost.
const (
	readA = ticks * (costMask + 1) << iota
	readB
	readC
	readAll
	writeA
	writeB
	writeC
	writeAll
)

// numbers tells of each operation its shape, its cost, and which registers it reads and writes. It holds numbers, not rows of fields: so many rows would be more than a table may hold.
var numbers = [api.Ops]uint16{
	api.OpNop:       api.ShapeNone | 1*ticks,
	api.OpSet:       api.ShapeAS | 1*ticks | writeA,
	api.OpHigh:      api.ShapeAI | 1*ticks | readA | writeA,
	api.OpMove:      api.ShapeAB | 1*ticks | readB | writeA,
	api.OpAdd:       api.ShapeABC | 1*ticks | readB | readC | writeA,
	api.OpSub:       api.ShapeABC | 1*ticks | readB | readC | writeA,
	api.OpMul:       api.ShapeABC | 3*ticks | readB | readC | writeA,
	api.OpDiv:       api.ShapeABC | 8*ticks | readB | readC | writeA,
	api.OpRem:       api.ShapeABC | 8*ticks | readB | readC | writeA,
	api.OpAnd:       api.ShapeABC | 1*ticks | readB | readC | writeA,
	api.OpOr:        api.ShapeABC | 1*ticks | readB | readC | writeA,
	api.OpXor:       api.ShapeABC | 1*ticks | readB | readC | writeA,
	api.OpShl:       api.ShapeABC | 1*ticks | readB | readC | writeA,
	api.OpShr:       api.ShapeABC | 1*ticks | readB | readC | writeA,
	api.OpLess:      api.ShapeABC | 1*ticks | readB | readC | writeA,
	api.OpEqual:     api.ShapeABC | 1*ticks | readB | readC | writeA,
	api.OpJump:      api.ShapeI | 1*ticks,
	api.OpZero:      api.ShapeAI | 1*ticks | readA,
	api.OpSome:      api.ShapeAI | 1*ticks | readA,
	api.OpCall:      api.ShapeI | 2*ticks,
	api.OpRet:       api.ShapeNone | 2*ticks,
	api.OpSpawn:     api.ShapeAI | 4*ticks | readAll | writeA,
	api.OpYield:     api.ShapeNone | 1*ticks,
	api.OpExit:      api.ShapeNone | 1*ticks,
	api.OpSelf:      api.ShapeA | 1*ticks | writeA,
	api.OpNow:       api.ShapeA | 1*ticks | writeA,
	api.OpSleep:     api.ShapeA | 1*ticks | readA,
	api.OpMake:      api.ShapeAB | 4*ticks | readB | writeA,
	api.OpSend:      api.ShapeAB | 2*ticks | readA | readB,
	api.OpRecv:      api.ShapeABC | 2*ticks | readC | writeA | writeB,
	api.OpClose:     api.ShapeA | 2*ticks | readA,
	api.OpLen:       api.ShapeAB | 1*ticks | readB | writeA,
	api.OpCap:       api.ShapeAB | 1*ticks | readB | writeA,
	api.OpSelect:    api.ShapeAI | 4*ticks | readAll | writeAll,
	api.OpLock:      api.ShapeA | 2*ticks | readA,
	api.OpUnlock:    api.ShapeA | 2*ticks | readA,
	api.OpRLock:     api.ShapeA | 2*ticks | readA,
	api.OpRUnlock:   api.ShapeA | 2*ticks | readA,
	api.OpWAdd:      api.ShapeAB | 2*ticks | readA | readB,
	api.OpWDone:     api.ShapeA | 2*ticks | readA,
	api.OpWWait:     api.ShapeA | 2*ticks | readA,
	api.OpCWait:     api.ShapeAB | 3*ticks | readA | readB,
	api.OpSignal:    api.ShapeA | 2*ticks | readA,
	api.OpBroadcast: api.ShapeA | 3*ticks | readA,
	api.OpAcquire:   api.ShapeA | 2*ticks | readA,
	api.OpRelease:   api.ShapeA | 2*ticks | readA,
	api.OpLoad:      api.ShapeAB | 2*ticks | readB | writeA,
	api.OpStore:     api.ShapeAB | 2*ticks | readA | readB,
	api.OpSwap:      api.ShapeABC | 3*ticks | readA | readB | readC | writeA,
	api.OpFetch:     api.ShapeABC | 3*ticks | readB | readC | writeA,
	api.OpInput:     api.ShapeAB | 2*ticks | writeA | writeB,
	api.OpOutput:    api.ShapeA | 2*ticks | readA,
	api.OpPut:       api.ShapeABC | 2*ticks | readA | readB | writeC,
	api.OpGet:       api.ShapeABC | 2*ticks | readC | writeA | writeB,
	api.OpAfter:     api.ShapeABC | 3*ticks | readB | readC | writeA,
	api.OpEvery:     api.ShapeABC | 3*ticks | readB | readC | writeA,
	api.OpStop:      api.ShapeAB | 2*ticks | readB | writeA,
	api.OpTrap:      api.ShapeI | 1*ticks,
}

// names is the operations' names. OpNone has none: the empty text there is nobody's.
var names = [api.Ops]string{
	api.OpNop: "nop", api.OpSet: "set", api.OpHigh: "high", api.OpMove: "move",
	api.OpAdd: "add", api.OpSub: "sub", api.OpMul: "mul", api.OpDiv: "div", api.OpRem: "rem",
	api.OpAnd: "and", api.OpOr: "or", api.OpXor: "xor", api.OpShl: "shl", api.OpShr: "shr",
	api.OpLess: "less", api.OpEqual: "equal",
	api.OpJump: "jump", api.OpZero: "zero", api.OpSome: "some", api.OpCall: "call", api.OpRet: "ret",
	api.OpSpawn: "spawn", api.OpYield: "yield", api.OpExit: "exit", api.OpSelf: "self",
	api.OpNow: "now", api.OpSleep: "sleep",
	api.OpMake: "make", api.OpSend: "send", api.OpRecv: "recv", api.OpClose: "close",
	api.OpLen: "len", api.OpCap: "cap", api.OpSelect: "select",
	api.OpLock: "lock", api.OpUnlock: "unlock", api.OpRLock: "rlock", api.OpRUnlock: "runlock",
	api.OpWAdd: "wadd", api.OpWDone: "wdone", api.OpWWait: "wwait",
	api.OpCWait: "cwait", api.OpSignal: "signal", api.OpBroadcast: "broadcast",
	api.OpAcquire: "acquire", api.OpRelease: "release",
	api.OpLoad: "load", api.OpStore: "store", api.OpSwap: "swap", api.OpFetch: "fetch",
	api.OpInput: "input", api.OpOutput: "output", api.OpPut: "put", api.OpGet: "get",
	api.OpAfter: "after", api.OpEvery: "every", api.OpStop: "stop", api.OpTrap: "trap",
}
