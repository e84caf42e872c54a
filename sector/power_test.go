package sector_test

import (
	"fmt"
	"math"
	"testing"

	"muslin/api"
	"muslin/sector"
)

// P10.3, P10.5: of each set of sectors that was written, each set of those that keep what they have; what was sure, and not written since, is there.
func TestCrash(t *testing.T) {
	const sectors = 4
	for written := range 1 << sectors {
		for keep := range 1 << sectors {
			d := fresh(t, sectors)
			for i := range sectors {
				ok(t, d.Write(i, full(byte(10+i))))
			}
			ok(t, d.Flush())
			// From the greatest number on, and twice: it hangs on the numbers alone which one is the k-th.
			want, k := []byte{10, 11, 12, 13}, 0
			for _, more := range []int{20, 30} {
				for i := sectors - 1; i >= 0; i-- {
					if written>>i&1 == 1 {
						ok(t, d.Write(i, full(byte(more+i))))
					}
				}
			}
			for i := range sectors {
				if written>>i&1 == 1 {
					if keep>>k&1 == 1 {
						want[i] = byte(30 + i)
					}
					k++
				}
			}
			ok(t, d.Crash([]int{keep, keep >> 1, keep >> 2, keep >> 3}))
			back(t, d)
			has(t, d, want...)
			// All that is left is sure.
			ok(t, d.Crash(nil))
			back(t, d)
			has(t, d, want...)
		}
	}
}

// P10.3: numbers that are missing, too many, below 0, great.
func TestKeep(t *testing.T) {
	for _, c := range []struct {
		keep []int
		want []byte
	}{
		{nil, []byte{0, 0, 0}},
		{[]int{}, []byte{0, 0, 0}},
		{[]int{1}, []byte{1, 0, 0}},
		{[]int{0, 1}, []byte{0, 2, 0}},
		{[]int{1, 1, 1}, []byte{1, 2, 3}},
		{[]int{0, 0, 0, 1, 1}, []byte{0, 0, 0}},
		{[]int{1, 1, 1, 0, 0}, []byte{1, 2, 3}},
		{[]int{2, 3, 4}, []byte{0, 2, 0}},
		{[]int{-1, -2, -3}, []byte{1, 0, 3}},
		{[]int{math.MaxInt, math.MinInt, math.MinInt + 1}, []byte{1, 0, 3}},
		{[]int{math.MaxInt - 1, math.MaxInt, 0}, []byte{0, 2, 0}},
	} {
		for name, goes := range ways {
			d := fresh(t, 3)
			ok(t, d.Write(0, full(1)), d.Write(1, full(2)), d.Write(2, full(3)))
			goes(t, d, c.keep)
			back(t, d)
			t.Run(fmt.Sprint(name, c.keep), func(t *testing.T) { has(t, d, c.want...) })
		}
	}
}

// ways are those in which the power goes.
var ways = map[string]func(*testing.T, *sector.Device, []int){
	"Crash": func(t *testing.T, d *sector.Device, keep []int) { ok(t, d.Crash(keep)) },
	"Flush": func(t *testing.T, d *sector.Device, keep []int) {
		answers(t, "Flush", []api.Errno{d.Fail(0, keep), d.Flush()}, api.OK, api.ErrDead)
	},
	"Write": func(t *testing.T, d *sector.Device, keep []int) {
		b, _ := d.Read(1)
		answers(t, "Write", []api.Errno{d.Fail(0, keep), d.Write(1, b)}, api.OK, api.ErrDead)
	},
}

// P10.3: a sector that was written with what it had was written, too.
func TestTheSame(t *testing.T) {
	d := fresh(t, 3)
	ok(t, d.Write(0, full(0)), d.Write(2, full(1)), d.Crash([]int{0, 1}))
	back(t, d)
	has(t, d, 0, 0, 1)
	// Those of works that were not done were not.
	answers(t, "wrong ones", []api.Errno{d.Write(0, nil), d.Refuse(0), d.Write(0, full(1)), d.Refuse(-1)}, api.ErrArg, api.OK, api.ErrSpace, api.OK)
	ok(t, d.Write(1, full(2)), d.Write(2, full(3)), d.Crash([]int{0, 1}))
	back(t, d)
	has(t, d, 0, 0, 3)
}

// P10.3: in the midst of Write its sector is one that was written since the last flush, in its place among them.
func TestMidstOfWrite(t *testing.T) {
	for at := range 3 {
		for keep := range 8 {
			d := fresh(t, 3)
			ok(t, d.Write(0, full(1)), d.Write(1, full(2)), d.Write(2, full(3)), d.Flush())
			want := []byte{1, 2, 3}
			for i := range 3 {
				if i != at {
					ok(t, d.Write(i, full(5)))
				}
				if keep>>i&1 == 1 {
					want[i] = 5
				}
			}
			answers(t, "Write", []api.Errno{d.Fail(0, []int{keep, keep >> 1, keep >> 2}), d.Write(at, full(5))}, api.OK, api.ErrDead)
			if d.Works() != 6 {
				t.Errorf("%d works", d.Works())
			}
			back(t, d)
			has(t, d, want...)
		}
	}
}

// P10.3: in the midst of Flush nothing is sure that was not.
func TestMidstOfFlush(t *testing.T) {
	d := fresh(t, 2)
	ok(t, d.Write(0, full(1)), d.Flush(), d.Write(0, full(2)), d.Write(1, full(3)))
	answers(t, "Flush", []api.Errno{d.Fail(0, []int{0, 1}), d.Flush()}, api.OK, api.ErrDead)
	if d.Works() != 4 {
		t.Errorf("%d works", d.Works())
	}
	back(t, d)
	has(t, d, 1, 3)
	ok(t, d.Flush())
	if d.Works() != 5 {
		t.Errorf("%d works", d.Works())
	}
}

// P10.3: the power goes behind just so many works, of either kind; what is no work does not count.
func TestFailBehind(t *testing.T) {
	for works := range 6 {
		d := fresh(t, 1)
		ok(t, d.Write(0, full(1)), d.Flush(), d.Fail(works, []int{1}))
		for n := range works {
			answers(t, "what is no work", []api.Errno{d.Write(1, full(1)), d.Write(0, nil), d.Refuse(0), d.Write(0, full(1)), d.Flush(), d.Refuse(-1), d.Boot()}, api.ErrRange, api.ErrArg, api.OK, api.ErrSpace, api.ErrSpace, api.OK, api.OK)
			d.Read(0)
			if n%2 == 0 {
				ok(t, d.Write(0, full(byte(n))))
			} else {
				ok(t, d.Flush())
			}
		}
		answers(t, "what is no work", []api.Errno{d.Write(1, full(1)), d.Write(0, nil), d.Boot()}, api.ErrRange, api.ErrArg, api.OK)
		if d.Dead() || d.Works() != 2+works {
			t.Errorf("behind %d: %v, %d", works, d.Dead(), d.Works())
		}
		if e := d.Write(0, full(77)); e != api.ErrDead || d.Works() != 2+works {
			t.Errorf("behind %d: %v, %d", works, e, d.Works())
		}
		back(t, d)
		has(t, d, 77)
		// It does not fail any more.
		ok(t, d.Write(0, full(8)), d.Flush(), d.Write(0, full(9)), d.Flush())
	}
}

// P10.3: what is told last counts; below 0 it does not fail, and does not refuse; nor does it behind as many as there never are.
func TestTakenBack(t *testing.T) {
	for _, works := range []int{-1, -2, math.MinInt, math.MaxInt} {
		d := fresh(t, 1)
		ok(t, d.Write(0, full(1)), d.Fail(0, nil), d.Fail(works, []int{1}), d.Refuse(0), d.Refuse(works))
		for range 3 {
			ok(t, d.Write(0, full(2)), d.Flush())
		}
		if d.Works() != 7 {
			t.Errorf("%d: %d works", works, d.Works())
		}
		has(t, d, 2)
	}
	d := fresh(t, 1)
	ok(t, d.Fail(5, []int{1}), d.Fail(1, nil), d.Write(0, full(1)))
	answers(t, "Flush", []api.Errno{d.Flush()}, api.ErrDead)
	back(t, d)
	has(t, d, 0)
	ok(t, d.Fail(0, nil), d.Fail(1, []int{1}), d.Write(0, full(1)))
	answers(t, "Flush", []api.Errno{d.Flush()}, api.ErrDead)
	back(t, d)
	has(t, d, 1)
}

// P10.2, P10.3: a device that refuses does nothing, till it is told not to.
func TestRefuse(t *testing.T) {
	for works := range 5 {
		d := fresh(t, 1)
		ok(t, d.Write(0, full(3)), d.Flush(), d.Refuse(works))
		want := byte(3)
		for n := range works {
			answers(t, "wrong ones", []api.Errno{d.Write(1, full(1)), d.Write(0, nil), d.Boot()}, api.ErrRange, api.ErrArg, api.OK)
			if n%2 == 0 {
				want = byte(10 + n)
				ok(t, d.Write(0, full(want)))
			} else {
				ok(t, d.Flush())
			}
		}
		for range 3 {
			answers(t, "full", []api.Errno{d.Write(0, full(9)), d.Flush(), d.Boot()}, api.ErrSpace, api.ErrSpace, api.OK)
			answers(t, "wrong, and full", []api.Errno{d.Write(1, full(9)), d.Write(0, full(9)[1:])}, api.ErrRange, api.ErrArg)
			has(t, d, want)
		}
		if d.Works() != 2+works {
			t.Errorf("behind %d: %d", works, d.Works())
		}
		// A flush that was refused made sure of nothing.
		ok(t, d.Crash(nil))
		back(t, d)
		has(t, d, []byte{3, 3, 10, 10, 12}[works])
		// It does not refuse any more.
		ok(t, d.Write(0, full(8)), d.Flush(), d.Write(0, full(9)))
	}
}

// P10.3: a device that refuses does not fail: what it refuses is no work.
func TestRefuseAndFail(t *testing.T) {
	d := fresh(t, 1)
	ok(t, d.Fail(1, []int{1}), d.Refuse(1), d.Write(0, full(1)))
	answers(t, "full", []api.Errno{d.Flush(), d.Write(0, full(2)), d.Flush(), d.Refuse(1), d.Write(0, full(3))}, api.ErrSpace, api.ErrSpace, api.ErrSpace, api.OK, api.ErrDead)
	back(t, d)
	has(t, d, 3)
	ok(t, d.Fail(0, nil), d.Refuse(-1))
	answers(t, "Flush", []api.Errno{d.Flush()}, api.ErrDead)
}

// P10.3: Boot of a device that is not dead leaves all as it is; of a dead one it forgets what was to come.
func TestBoot(t *testing.T) {
	d := fresh(t, 1)
	ok(t, d.Boot(), d.Write(0, full(1)), d.Boot(), d.Crash(nil))
	back(t, d)
	has(t, d, 0)
	ok(t, d.Refuse(0), d.Boot())
	answers(t, "full", []api.Errno{d.Flush(), d.Refuse(-1), d.Fail(0, nil), d.Boot(), d.Flush()}, api.ErrSpace, api.OK, api.OK, api.OK, api.ErrDead)
	back(t, d)
	ok(t, d.Boot(), d.Fail(1, nil), d.Refuse(1), d.Crash(nil))
	back(t, d)
	for range 3 {
		ok(t, d.Write(0, full(2)), d.Flush())
	}
	if d.Works() != 7 {
		t.Errorf("%d works", d.Works())
	}
}
