package word_test

import (
	"strings"
	"testing"

	"rota/api"
	"rota/word"
)

// TestRows: the document's table has the operations from 1 on, one a row: what the other tests go over is all of them.
func TestRows(t *testing.T) {
	for at, r := range rows() {
		if r.op != at+1 {
			t.Errorf("row %d is %s, of the number %d", at+1, r.name, r.op)
		}
	}
	if len(rows())+1 != api.Ops || api.OpNop != 1 || api.OpTrap != 58 {
		t.Errorf("%d rows, and Ops is %d; OpNop is %d, OpTrap %d", len(rows()), api.Ops, api.OpNop, api.OpTrap)
	}
}

// TestTable: W1: name, shape and cost of every operation, and the operation of every name.
func TestTable(t *testing.T) {
	for _, r := range rows() {
		if name, e := word.Name(r.op); name != r.name || e != api.OK {
			t.Errorf("Name(%d): %q, %d, not %q", r.op, name, e, r.name)
		}
		if shape, e := word.Shape(r.op); shape != shapeNumber(r.shape) || e != api.OK {
			t.Errorf("Shape of %s: %d, %d, not %d (%s)", r.name, shape, e, shapeNumber(r.shape), r.shape)
		}
		if cost, e := word.Cost(r.op); cost != r.cost || e != api.OK {
			t.Errorf("Cost of %s: %d, %d, not %d", r.name, cost, e, r.cost)
		}
		if op, e := word.Find(r.name); op != r.op || e != api.OK {
			t.Errorf("Find(%q): %d, %d, not %d", r.name, op, e, r.op)
		}
	}
}

// TestNoOperation: W1: of what is no operation nothing is told: of 0, Ops, numbers below 0, and beyond a byte.
func TestNoOperation(t *testing.T) {
	for _, op := range notOperations() {
		if name, e := word.Name(op); name != "" || e != api.ErrOp {
			t.Errorf("Name(%d): %q, %d, not ErrOp", op, name, e)
		}
		if shape, e := word.Shape(op); shape != 0 || e != api.ErrOp {
			t.Errorf("Shape(%d): %d, %d, not ErrOp", op, shape, e)
		}
		if cost, e := word.Cost(op); cost != 0 || e != api.ErrOp {
			t.Errorf("Cost(%d): %d, %d, not ErrOp", op, cost, e)
		}
	}
}

// notNames is texts that are no operation's name: like one but for a byte or a case, a piece of one, two of them.
func notNames() []string {
	out := []string{"", " ", "halt", "none", "ops", "op", "0", "1", "\x00", "\xff", "n\xc3\xb6p", "set r1 7", "nop set", "nop\nset", strings.Repeat("nop", 1000)}
	for _, r := range rows() {
		n := r.name
		out = append(out, strings.ToUpper(n), strings.ToUpper(n[:1])+n[1:], "Op"+n, n+" ", " "+n, n+"\n", n+"\x00", n+"s", n+n, "x"+n, n+":")
		for at := range n {
			out = append(out, n[:at], n[at+1:], n[:at]+n[at+1:], n[:at]+"z"+n[at+1:], n[:at]+"\xff"+n[at+1:])
		}
	}
	return out
}

// TestFindOfNoName: W1: just that name is found, and no other text.
func TestFindOfNoName(t *testing.T) {
	there := map[string]bool{}
	for _, r := range rows() {
		there[r.name] = true
	}
	asked := 0
	for _, name := range notNames() {
		if there[name] { // a piece of one may be another one: xor without its x is or
			continue
		}
		asked++
		if op, e := word.Find(name); op != 0 || e != api.ErrOp {
			t.Errorf("Find(%q): %d, %d, not ErrOp", name, op, e)
		}
	}
	if asked < 1000 {
		t.Errorf("only %d texts were asked for", asked)
	}
}

// TestCosts: W6: no cost is below 1 or above MaxCost; both of these are some operation's.
func TestCosts(t *testing.T) {
	least, most := api.MaxCost, 1
	for op := api.OpNop; op < api.Ops; op++ {
		cost, e := word.Cost(op)
		if cost < 1 || cost > api.MaxCost || e != api.OK {
			t.Errorf("Cost(%d): %d, %d", op, cost, e)
		}
		least, most = min(least, cost), max(most, cost)
	}
	if least != 1 || most != api.MaxCost || api.MaxCost != 8 {
		t.Errorf("costs from %d to %d, and MaxCost is %d", least, most, api.MaxCost)
	}
}

// TestNames: W7: a name is found as its operation; no two have one name, and none is empty.
func TestNames(t *testing.T) {
	whose := map[string]int{}
	for op := api.OpNop; op < api.Ops; op++ {
		name, e := word.Name(op)
		if name == "" || e != api.OK {
			t.Errorf("Name(%d): %q, %d", op, name, e)
		}
		if other, twice := whose[name]; twice {
			t.Errorf("%q is the name of %d and of %d", name, other, op)
		}
		whose[name] = op
		if found, e := word.Find(name); found != op || e != api.OK {
			t.Errorf("Find(Name(%d)): %d, %d", op, found, e)
		}
	}
}
