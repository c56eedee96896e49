package word_test

import (
	"testing"

	"rota/api"
	"rota/word"
)

// TestExamples: the chapter's examples.
func TestExamples(t *testing.T) {
	for _, c := range []struct {
		i api.Instr
		w uint32
	}{
		{api.Instr{Op: api.OpAdd, A: 1, B: 2, C: 3}, 0x05120003},
		{api.Instr{Op: api.OpSet, A: 4, Imm: -1}, 0x0240FFFF},
		{api.Instr{Op: api.OpJump, Imm: 7}, 0x11000007},
		{api.Instr{Op: api.OpNop}, 0x01000000},
	} {
		bothWays(t, c.i, c.w)
	}
	refused(t, api.Instr{Op: api.OpNop, A: 1}, api.ErrField)
	refused(t, api.Instr{Op: api.OpAdd, A: 1, B: 2, C: 3, Imm: 1}, api.ErrField)
	refused(t, api.Instr{Op: api.OpSet, A: 4, Imm: 40000}, api.ErrField)
	refused(t, api.Instr{Op: 99, A: 1, B: 2, C: 3}, api.ErrOp)
	refused(t, api.Instr{Op: api.OpNone, A: 1, B: 2, C: 3}, api.ErrOp)
	unread(t, 0x05120013, api.ErrField)
	unread(t, 0x00000000, api.ErrOp)
	unread(t, 0xFF000000, api.ErrOp)
}

// TestWordsOfAllEnds: W2, W3: the words with all fields at their ends, of an operation of each shape.
func TestWordsOfAllEnds(t *testing.T) {
	for _, c := range []struct {
		i api.Instr
		w uint32
	}{
		{api.Instr{Op: api.OpExit}, 0x18000000},
		{api.Instr{Op: api.OpSelf}, 0x19000000},
		{api.Instr{Op: api.OpSelf, A: 15}, 0x19F00000},
		{api.Instr{Op: api.OpMove}, 0x04000000},
		{api.Instr{Op: api.OpMove, A: 15}, 0x04F00000},
		{api.Instr{Op: api.OpMove, B: 15}, 0x040F0000},
		{api.Instr{Op: api.OpEvery, A: 15, B: 15, C: 15}, 0x38FF000F},
		{api.Instr{Op: api.OpEvery, C: 15}, 0x3800000F},
		{api.Instr{Op: api.OpTrap}, 0x3A000000},
		{api.Instr{Op: api.OpTrap, Imm: 65535}, 0x3A00FFFF},
		{api.Instr{Op: api.OpTrap, Imm: 32768}, 0x3A008000},
		{api.Instr{Op: api.OpHigh, A: 15, Imm: 65535}, 0x03F0FFFF},
		{api.Instr{Op: api.OpHigh, Imm: 32768}, 0x03008000},
		{api.Instr{Op: api.OpSet}, 0x02000000},
		{api.Instr{Op: api.OpSet, A: 15, Imm: -32768}, 0x02F08000},
		{api.Instr{Op: api.OpSet, A: 15, Imm: 32767}, 0x02F07FFF},
		{api.Instr{Op: api.OpSet, Imm: -2}, 0x0200FFFE},
	} {
		bothWays(t, c.i, c.w)
	}
}

// TestEncode: W2, W5: of every operation the words of all registers and of numbers up to the ends; Decode brings them back.
func TestEncode(t *testing.T) {
	for _, r := range rows() {
		each(r, func(i api.Instr) {
			bothWays(t, i, modelEncode(r, i))
		})
	}
}

// TestEncodeEachNumber: W2, W5: of every operation with a number all that its shape lets.
func TestEncodeEachNumber(t *testing.T) {
	for _, r := range rows() {
		least, most := span(r.shape)
		for imm := least; imm <= most; imm++ {
			i := api.Instr{Op: r.op, Imm: imm}
			bothWays(t, i, modelEncode(r, i))
		}
	}
}

// TestWrongFields: W2, W4: a field out of its range, or one that the shape has not and that is not 0, whatever the others are.
func TestWrongFields(t *testing.T) {
	for _, r := range rows() {
		least, most := span(r.shape)
		for _, right := range []api.Instr{{Op: r.op}, lastOf(r, least), lastOf(r, most)} {
			if _, e := word.Encode(right); e != api.OK {
				t.Fatalf("Encode(%+v) of %s: %d", right, r.name, e)
			}
			for _, field := range fields() {
				for _, n := range wrongNumbers(r.shape, field) {
					refused(t, setField(right, field, n), api.ErrField)
				}
			}
		}
	}
}

// lastOf is an instruction with a number, and all registers that it has the last ones.
func lastOf(r row, imm int) api.Instr {
	i := api.Instr{Op: r.op, Imm: imm}
	for _, field := range []string{"a", "b", "c"} {
		if hasField(r.shape, field) {
			i = setField(i, field, 15)
		}
	}
	return i
}

// TestTwoWrongFields: W2: one that is wrong is not made right by another one: each pair of them is refused.
func TestTwoWrongFields(t *testing.T) {
	for _, r := range rows() {
		for at, one := range fields() {
			for _, other := range fields()[at+1:] {
				for _, n := range wrongNumbers(r.shape, one) {
					for _, m := range wrongNumbers(r.shape, other) {
						refused(t, setField(setField(api.Instr{Op: r.op}, one, n), other, m), api.ErrField)
					}
				}
			}
		}
	}
}

// TestEncodeOfNoOperation: W2, W4, R2: ErrOp comes ahead of ErrField.
func TestEncodeOfNoOperation(t *testing.T) {
	for _, op := range notOperations() {
		for _, i := range []api.Instr{{}, {A: 1, B: 2, C: 3}, {A: 15, Imm: 65535}, {A: -1}, {B: 16}, {C: 16}, {Imm: 65536}, {Imm: -32769}} {
			i.Op = op
			refused(t, i, api.ErrOp)
		}
	}
}

// TestDecodeOfNoOperation: W3: the upper 8 bits alone tell whether there is an operation, whatever stands below them: all zeros and all ones too.
func TestDecodeOfNoOperation(t *testing.T) {
	for top := uint32(0); top < 256; top++ {
		if 1 <= top && top < uint32(api.Ops) {
			continue
		}
		for _, rest := range []uint32{0, 1, 0x00120003, 0x00F00000, 0x000F0000, 0x0000FFFF, 0x00008000, 0x00FFFFFF} {
			unread(t, top<<24|rest, api.ErrOp)
		}
	}
	unread(t, 0xFFFFFFFF, api.ErrOp)
}

// TestDecodeEachBit: W3: of every operation each bit by itself: one of a field is read, and one that belongs to none is refused.
func TestDecodeEachBit(t *testing.T) {
	for _, r := range rows() {
		for bit := range 24 {
			decodes(t, r, uint32(r.op)<<24|1<<bit)
			decodes(t, r, uint32(r.op)<<24|(1<<24-1)&^(1<<bit))
			decodes(t, r, modelEncode(r, lastOf(r, 0))^1<<bit)
		}
	}
}

// decodes holds Decode of a word against the model, and, W5, Encode of what it read against the word.
func decodes(t *testing.T, r row, w uint32) {
	t.Helper()
	want, refusal := modelDecode(r, w)
	i, e := word.Decode(w)
	if i != want || e != refusal {
		t.Fatalf("Decode(%08x) of %s: %+v, %d, not %+v, %d", w, r.name, i, e, want, refusal)
	}
	if e != api.OK {
		return
	}
	if back, e := word.Encode(i); back != w || e != api.OK {
		t.Fatalf("Encode(%+v) of %s: %08x, %d, not %08x", i, r.name, back, e, w)
	}
}

// TestDecodeMany: W3, W5: of every operation all of its upper fields with some lower ones, and all of its lower ones with some upper ones.
func TestDecodeMany(t *testing.T) {
	uppers := []uint32{0x00, 0xF0}
	lowers := []uint32{0x0000, 0x0001, 0x000F, 0x0010, 0x0013, 0x0100, 0x1000, 0x7FFF, 0x8000, 0xFFFF}
	for _, r := range rows() {
		op := uint32(r.op) << 24
		for upper := range uint32(256) {
			for _, lower := range lowers {
				decodes(t, r, op|upper<<16|lower)
			}
		}
		for lower := range uint32(65536) {
			// Most shapes let few of them be, so that some suffice there.
			if _, most := span(r.shape); most == 0 && lower >= 64 && lower%251 != 0 {
				continue
			}
			for _, upper := range uppers {
				decodes(t, r, op|upper<<16|lower)
			}
		}
	}
}

// TestUsesExamples: W4: the chapter's examples, and registers at their ends.
func TestUsesExamples(t *testing.T) {
	for _, c := range []struct {
		i             api.Instr
		reads, writes uint16
	}{
		{api.Instr{Op: api.OpRecv, A: 1, B: 2, C: 3}, 1 << 3, 1<<1 | 1<<2},
		{api.Instr{Op: api.OpSelect, A: 5}, 65535, 65535},
		{api.Instr{Op: api.OpSpawn, A: 5}, 65535, 1 << 5},
		{api.Instr{Op: api.OpNop}, 0, 0},
		{api.Instr{Op: api.OpTrap, Imm: 65535}, 0, 0},
		{api.Instr{Op: api.OpSet}, 0, 1},
		{api.Instr{Op: api.OpSet, A: 15, Imm: -32768}, 0, 1 << 15},
		{api.Instr{Op: api.OpHigh, A: 15, Imm: 65535}, 1 << 15, 1 << 15},
		{api.Instr{Op: api.OpAdd}, 1, 1},
		{api.Instr{Op: api.OpAdd, A: 15, B: 15, C: 15}, 1 << 15, 1 << 15},
		{api.Instr{Op: api.OpAdd, B: 15, C: 14}, 1<<15 | 1<<14, 1},
		{api.Instr{Op: api.OpSwap, A: 15, C: 7}, 1<<15 | 1<<7 | 1, 1 << 15},
		{api.Instr{Op: api.OpPut, B: 15, C: 9}, 1<<15 | 1, 1 << 9},
		{api.Instr{Op: api.OpInput, A: 15}, 0, 1<<15 | 1},
	} {
		reads, e := word.Reads(c.i)
		writes, f := word.Writes(c.i)
		if reads != c.reads || writes != c.writes || e != api.OK || f != api.OK {
			t.Errorf("%+v reads %b (%d), writes %b (%d), not %b, %b", c.i, reads, e, writes, f, c.reads, c.writes)
		}
	}
}

// TestUses: W4: of every operation and all registers the bits of those that the table names.
func TestUses(t *testing.T) {
	for _, r := range rows() {
		each(r, func(i api.Instr) {
			if reads, e := word.Reads(i); reads != modelUses(r.reads, i) || e != api.OK {
				t.Fatalf("Reads(%+v) of %s: %b, %d, not %b", i, r.name, reads, e, modelUses(r.reads, i))
			}
			if writes, e := word.Writes(i); writes != modelUses(r.writes, i) || e != api.OK {
				t.Fatalf("Writes(%+v) of %s: %b, %d, not %b", i, r.name, writes, e, modelUses(r.writes, i))
			}
		})
	}
}
