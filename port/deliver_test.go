package port_test

import (
	"testing"

	"rota/api"
)

// TestDeliverQueued: M4: ages grow, Out goes behind In as long as there is room, the others are lost, Out has nothing then.
func TestDeliverQueued(t *testing.T) {
	for _, at := range []struct {
		what      string
		was, then api.PortState
	}{
		{"nothing anywhere", queued(3, nil, nil, 0), queued(3, nil, nil, 0)},
		{"nothing in Out", queued(3, nil, ages(1, 2, 2, 0), 4), queued(3, nil, ages(1, 3, 2, 1), 4)},
		{"nothing in Out, In full", queued(2, nil, ages(1, 2, 2, 0), 4), queued(2, nil, ages(1, 3, 2, 1), 4)},
		{"nothing in In", queued(3, values(5, 6), nil, 0), queued(3, nil, ages(5, 0, 6, 0), 0)},
		{"nothing in In, Out full", queued(2, values(5, 6), nil, 3), queued(2, nil, ages(5, 0, 6, 0), 3)},
		{"room for more than all", queued(4, values(5), ages(1, 0), 0), queued(4, nil, ages(1, 1, 5, 0), 0)},
		{"room for just all", queued(4, values(5, 6), ages(1, 1, 2, 0), 9), queued(4, nil, ages(1, 2, 2, 1, 5, 0, 6, 0), 9)},
		{"room for all but one", queued(4, values(5, 6, 7), ages(1, 1, 2, 0), 9), queued(4, nil, ages(1, 2, 2, 1, 5, 0, 6, 0), 10)},
		{"room for one", queued(4, values(5, 6, 7), ages(1, 1, 2, 1, 3, 0), 9), queued(4, nil, ages(1, 2, 2, 2, 3, 1, 5, 0), 11)},
		{"room for none", queued(2, values(5, 6), ages(1, 1, 2, 1), 0), queued(2, nil, ages(1, 2, 2, 2), 2)},
		{"room for none, of one", queued(1, values(5), ages(1, 0), 0), queued(1, nil, ages(1, 1), 1)},
		{"room of one", queued(1, values(5), nil, 0), queued(1, nil, ages(5, 0), 0)},
		{"one value again and again", queued(4, values(5, 5), ages(5, 2, 5, 2), 0), queued(4, nil, ages(5, 3, 5, 3, 5, 0, 5, 0), 0)},
		{"odd values", queued(4, anyValues()[:3], ages(-1, 0), 0), queued(4, nil, ages(-1, 1, 0, 0, 1, 0, -1, 0), 0)},
	} {
		p := load(t, at.was)
		p.Deliver()
		stands(t, at.what, p, at.then)
	}
}

// TestDeliverFull: M4: of the greatest capacities, with all numbers in In and Out that come near to them.
func TestDeliverFull(t *testing.T) {
	for _, capacity := range []int{64, buffer - 1, buffer} {
		for _, out := range []int{0, 1, 2, capacity / 2, capacity - 1, capacity} {
			for _, in := range []int{0, 1, 2, capacity / 2, capacity - 2, capacity - 1, capacity} {
				p := load(t, queued(capacity, from(5000, out), agedFrom(1, in, 7), 100))
				p.Deliver()
				come := min(out, capacity-in)
				stands(t, "full", p, queued(capacity, nil, append(agedFrom(1, in, 8), agedFrom(5000, come, 0)...), 100+out-come))
			}
		}
	}
}

// TestDeliverSampled: M4: the last value that was put, with the age 0; else the one that there was, one older.
func TestDeliverSampled(t *testing.T) {
	for _, at := range []struct {
		what      string
		was, then api.PortState
	}{
		{"nothing anywhere", sampled(nil, nil), sampled(nil, nil)},
		{"nothing in Out", sampled(nil, ages(3, 0)), sampled(nil, ages(3, 1))},
		{"nothing in In", sampled(values(4), nil), sampled(nil, ages(4, 0))},
		{"both", sampled(values(4), ages(3, 6)), sampled(nil, ages(4, 0))},
		{"the same value", sampled(values(3), ages(3, 6)), sampled(nil, ages(3, 0))},
		{"a value of 0", sampled(values(0), ages(3, 6)), sampled(nil, ages(0, 0))},
		{"all but the greatest age", sampled(nil, ages(3, most-1)), sampled(nil, ages(3, most))},
		{"the greatest age", sampled(nil, ages(3, most)), sampled(nil, ages(3, most))},
		{"the greatest age, and a value", sampled(values(4), ages(3, most)), sampled(nil, ages(4, 0))},
	} {
		p := load(t, at.was)
		p.Deliver()
		stands(t, at.what, p, at.then)
		for _, x := range at.then.In {
			gets(t, at.what, p, x.Value, x.Age)
		}
	}
}

// TestDeliverOfGreatestAges: M4: an age of 2^31 - 1 stays, one of 2^31 - 2 grows once more.
func TestDeliverOfGreatestAges(t *testing.T) {
	p := load(t, queued(4, values(5), ages(1, most, 2, most-1, 3, most-2), 0))
	p.Deliver()
	stands(t, "first", p, queued(4, nil, ages(1, most, 2, most, 3, most-1, 5, 0), 0))
	p.Deliver()
	stands(t, "second", p, queued(4, nil, ages(1, most, 2, most, 3, most, 5, 1), 0))
	p.Deliver()
	stands(t, "third", p, queued(4, nil, ages(1, most, 2, most, 3, most, 5, 2), 0))
	load(t, p.State())
}

// TestDeliverOfGreatestLost: M4: Lost comes to 2^31 - 1 and stays there, by whatever it would pass it.
func TestDeliverOfGreatestLost(t *testing.T) {
	for _, at := range []struct{ lost, more, then int }{
		{most - 2, 0, most - 2},
		{most - 2, 1, most - 1},
		{most - 2, 2, most},
		{most - 2, 3, most},
		{most - 1, 0, most - 1},
		{most - 1, 1, most},
		{most - 1, 2, most},
		{most - 1, buffer, most},
		{most, 0, most},
		{most, 1, most},
		{most, buffer, most},
		{most - buffer, buffer, most},
		{most - buffer - 1, buffer, most - 1},
		{most - buffer + 1, buffer, most},
	} {
		in := agedFrom(1, buffer, 2)
		p := load(t, queued(buffer, from(3, at.more), in, at.lost))
		p.Deliver()
		stands(t, "the greatest Lost", p, queued(buffer, nil, agedFrom(1, buffer, 3), at.then))
	}
	p := load(t, queued(1, nil, ages(1, 0), most-1))
	for n := range 3 {
		p.Put(5)
		p.Deliver()
		stands(t, "again", p, queued(1, nil, ages(1, int64(n+1)), most))
	}
}

// TestPutAgainBehindDeliver: M4: Out has room for all again, though values were lost.
func TestPutAgainBehindDeliver(t *testing.T) {
	for _, capacity := range []int{1, 2, 3, buffer} {
		p := made(t, true, capacity)
		for turn := range 4 {
			for n := range capacity {
				puts(t, "behind a delivery", p, int64(10*turn+n), true)
			}
			puts(t, "full", p, 5, false)
			p.Deliver()
			stands(t, "behind a delivery", p, queued(capacity, nil, agedFrom(0, capacity, turn), turn*capacity))
		}
	}
}

// TestDeliverAgainAndAgain: M4: each delivery makes what is there one older.
func TestDeliverAgainAndAgain(t *testing.T) {
	p, x := made(t, true, 3), made(t, false, 1)
	p.Put(7)
	x.Put(7)
	for age := range 200 {
		p.Deliver()
		x.Deliver()
		stands(t, "queued", p, queued(3, nil, ages(7, int64(age)), 0))
		gets(t, "sampled", x, 7, age)
	}
	gets(t, "queued", p, 7, 199)
	p.Deliver()
	stands(t, "queued, got", p, queued(3, nil, nil, 0))
}
