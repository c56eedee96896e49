package choose_test

import (
	"slices"
	"sync"
	"testing"

	"rota/api"
	"rota/channel"
	"rota/choose"
)

// mark is what is written over with.
const mark = 77

// over writes over a list, and over the room behind its end.
func over[T any](l []T, with T) {
	l = l[:cap(l)]
	for i := range l {
		l[i] = with
	}
}

// selectsAnything carries a select out, with a default and without, whatever it answers.
func selectsAnything(x *channel.Chans, g api.Gid, l []api.Pick, draws []uint64) {
	choose.Select(x, g, l, true, draws)
	choose.Select(x, g, l, false, draws)
}

// examples is states with something of all.
func examples() [][]api.ChanState {
	return [][]api.ChanState{
		{open(0, no, no), open(1, no, no), open(2, no, no)},
		{open(1, no, no, 4), open(0, all(waiting(a, 2, 5)), no), shut(1, 6)},
		{open(0, no, all(waiting(b, 1, 0), waiting(c, 0, 0))), open(1, all(waiting(a, 0, 7)), no, 8), open(0, all(waiting(d, 0, 9)), all(waiting(d, 1, 0)))},
	}
}

// fewSelects is cases that go on, that wait, that trap and that are refused.
func fewSelects() [][]api.Pick {
	return [][]api.Pick{
		nil,
		of(recv(1)), of(send(1, 11)), of(recv(2), send(3, 12)), of(send(2, 13), recv(0), recv(3)),
		of(recv(1), send(1, 14), recv(2), send(2, 15), recv(3), send(3, 16)),
		of(recv(1), recv(9)), repeated(most+1, recv(1)),
	}
}

// TestArgumentsStay: R3: what is handed in is not changed, nor what lies behind its end.
func TestArgumentsStay(t *testing.T) {
	for n := range most + 2 {
		room := make([]uint64, most+5)
		for i := range room {
			room[i] = uint64(i*i) + 40
		}
		was := slices.Clone(room)
		for k := range room {
			choose.Order(n, room[:k])
		}
		if !slices.Equal(room, was) {
			t.Errorf("Order has changed its draws: %v", room)
		}
	}
	for n := range 6 {
		for _, order := range everyOrder(n) {
			room := append(slices.Clone(order), mark, 0, 1, mark)
			was := slices.Clone(room)
			for k := range room {
				choose.Draws(room[:k])
			}
			if !slices.Equal(room, was) {
				t.Errorf("Draws has changed its order: %v", room)
			}
		}
	}
	for _, state := range examples() {
		for _, l := range fewSelects() {
			room, draws := append(slices.Clone(l), recv(mark), send(1, mark)), []uint64{5, 6, 7, 8, 9, 10, 11}
			wasRoom, wasDraws := slices.Clone(room), slices.Clone(draws)
			selectsAnything(load(t, state...), me, room[:len(l)], draws[:min(len(l), 7)])
			selectsAnything(nil, me, room[:len(l)], draws[:min(len(l), 7)])
			if !slices.Equal(room, wasRoom) || !slices.Equal(draws, wasDraws) {
				t.Errorf("Select has changed what it was given: %v, %v", room, draws)
			}
		}
	}
}

// TestArgumentsAreNotKept: R3: cases and draws that are written over behind a select are not seen in any later answer.
func TestArgumentsAreNotKept(t *testing.T) {
	for _, state := range examples() {
		for _, l := range fewSelects() {
			x, draws := load(t, state...), zeros(len(l))
			in := slices.Clone(l)
			choose.Select(x, me, in, false, draws)
			want := copyOf(x.State())
			over(in, send(1, mark))
			over(draws, mark)
			tells(t, "written over", x, want...)
		}
	}
}

// TestAnswersAreNew: R3: an answer that is written over, its room too, changes no argument, no other answer, and no channels.
func TestAnswersAreNew(t *testing.T) {
	for n := range most + 1 {
		draws := make([]uint64, n)
		for i := range draws {
			draws[i] = uint64(i * 7)
		}
		was := slices.Clone(draws)
		first, _ := choose.Order(n, draws)
		second, _ := choose.Order(n, draws)
		order := slices.Clone(second)
		over(first, mark)
		if !slices.Equal(second, order) || !slices.Equal(draws, was) {
			t.Errorf("an order shares memory: %v, %v", second, draws)
		}
		orders(t, draws, order...)
		least, _ := choose.Draws(order)
		again, _ := choose.Draws(order)
		wasLeast := slices.Clone(again)
		over(least, mark)
		if !slices.Equal(again, wasLeast) || !slices.Equal(order, second) {
			t.Errorf("draws share memory: %v, %v", again, order)
		}
	}
	spoiled := api.Woken{G: api.Gid{Slot: mark}, Case: mark, Value: mark, Trap: mark}
	woke := 0
	for _, state := range examples() {
		for _, l := range fewSelects() {
			x, y := load(t, state...), load(t, state...)
			first, _ := choose.Select(x, me, l, false, zeros(len(l)))
			second, _ := choose.Select(y, me, l, false, zeros(len(l)))
			woke += len(first.Moved.Woken)
			want, was := x.State(), slices.Clone(second.Moved.Woken)
			over(first.Moved.Woken, spoiled)
			tells(t, "written over", x, want...)
			for _, more := range fewSelects() {
				selectsAnything(y, b, more, zeros(len(more)))
				y.Leave(b)
			}
			if !slices.Equal(second.Moved.Woken, was) {
				t.Errorf("%+v: an answer has changed to %+v", l, second)
			}
		}
	}
	if woke < 3 {
		t.Errorf("%d were woken: too few to tell anything", woke)
	}
}

// TestRefusedIsNotRemembered: R2, R4: what was refused, or trapped ahead of all cases, or went by the default, is not seen in any later answer.
func TestRefusedIsNotRemembered(t *testing.T) {
	for _, state := range examples() {
		for _, l := range fewSelects() {
			x, y := load(t, state...), load(t, state...)
			choose.Order(3, zeros(2))
			choose.Draws([]int{1, 1})
			refuses(t, x, me, of(recv(1)), false, nil, api.ErrDraws)
			refuses(t, x, me, nils(most+1), false, zeros(most+1), api.ErrArg)
			selects(t, x, of(recv(1), send(8, 5)), false, zeros(2), noChannel())
			selects(t, x, nils(3), true, zeros(3), byDefault())
			selects(t, x, nils(3), false, zeros(3), blocked())
			tells(t, "behind what was refused", x, state...)
			first, e := choose.Select(x, me, l, false, zeros(len(l)))
			second, f := choose.Select(y, me, l, false, zeros(len(l)))
			if !sameChoice(first, second) || e != f || !sameStates(x.State(), y.State()) {
				t.Errorf("%+v: %+v, %d, not %+v, %d", l, first, e, second, f)
			}
		}
	}
}

// TestTwoAreApart: R4: what is selected of some channels is not seen in others of the same state.
func TestTwoAreApart(t *testing.T) {
	for _, state := range examples() {
		x, y := load(t, state...), load(t, state...)
		z := load(t, x.State()...)
		for _, l := range fewSelects() {
			selectsAnything(x, me, l, zeros(len(l)))
			x.Leave(me)
		}
		tells(t, "others of the same state", y, state...)
		tells(t, "others of a state that was told", z, state...)
		want := x.State()
		for _, l := range fewSelects() {
			selectsAnything(y, me, l, zeros(len(l)))
			selectsAnything(nil, me, l, zeros(len(l)))
		}
		tells(t, "the first", x, want...)
	}
	// One and the same goroutine's name may wait in both: they are two domains'.
	x, y := load(t, open(0, no, no)), load(t, open(0, no, no))
	selects(t, x, of(recv(1)), false, zeros(1), blocked())
	selects(t, y, of(send(1, 3)), false, zeros(1), blocked())
	selectsBy(t, x, a, of(send(1, 4)), false, zeros(1), went(0, passed(handed(me, 0, 4))))
	selectsBy(t, y, a, of(recv(1)), false, zeros(1), went(0, got(3, sent(me, 0))))
}

// TestOneAnswer: R4: the same calls have the same answers, asked by several goroutines at once, each with its own channels.
func TestOneAnswer(t *testing.T) {
	walk := func(state []api.ChanState) ([]api.Chosen, []api.ChanState) {
		var out []api.Chosen
		x, _ := channel.Load(state)
		for n, l := range slices.Concat(fewSelects(), fewSelects()) {
			order, _ := choose.Order(len(l)%(most+1), []uint64{3, 1, 4, 1, 5, uint64(n)})
			draws, _ := choose.Draws(order)
			y, _ := choose.Select(x, everybody()[n%8], l, n%5 == 0, draws)
			out = append(out, y)
		}
		return out, x.State()
	}
	for _, state := range examples() {
		want, last := walk(state)
		var group sync.WaitGroup
		for range 8 {
			group.Go(func() {
				for range 50 {
					out, end := walk(state)
					if !slices.EqualFunc(out, want, sameChoice) || !sameStates(end, last) {
						t.Errorf("%+v, not %+v", out, want)
						return
					}
				}
			})
		}
		group.Wait()
	}
}
