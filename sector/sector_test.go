package sector_test

import (
	"bytes"
	"math"
	"slices"
	"testing"

	"muslin/api"
	"muslin/sector"
)

// full are the bytes of a sector that are all the same one.
func full(b byte) []byte { return bytes.Repeat([]byte{b}, api.SectorSize) }

// fresh is a new device.
func fresh(t *testing.T, sectors int) *sector.Device {
	t.Helper()
	d, e := sector.New(sectors)
	if d == nil || e != api.OK {
		t.Fatalf("New(%d): %v, %v", sectors, d, e)
	}
	return d
}

// answers holds errors that were answered, one behind the other, to those that were to be.
func answers(t *testing.T, what string, got []api.Errno, want ...api.Errno) {
	t.Helper()
	if !slices.Equal(got, want) {
		t.Errorf("%s: %v, not %v", what, got, want)
	}
}

// ok holds errors to be none.
func ok(t *testing.T, got ...api.Errno) {
	t.Helper()
	answers(t, "all of it", got, make([]api.Errno, len(got))...)
}

// has holds the sectors of a device to bytes of which each has just one.
func has(t *testing.T, d *sector.Device, want ...byte) {
	t.Helper()
	for i, w := range want {
		if b, e := d.Read(i); !bytes.Equal(b, full(w)) || e != api.OK {
			t.Errorf("sector %d: %x, %v, not %x", i, b, e, w)
		}
	}
}

// back lets the power come back, if it is gone as it is to be.
func back(t *testing.T, d *sector.Device) {
	t.Helper()
	if !d.Dead() {
		t.Error("not dead")
	}
	ok(t, d.Boot())
	if d.Dead() {
		t.Error("dead yet")
	}
}

// told are the errors of all the calls that answer ErrDead of a dead device, whose arguments are right, if right is, and else wrong, where they can be.
func told(t *testing.T, d *sector.Device, right bool) []api.Errno {
	t.Helper()
	at, with := 0, full(1)
	if !right {
		at, with = -1, nil
	}
	b, e := d.Read(at)
	if len(b) != 0 {
		t.Errorf("Read: %x", b)
	}
	return []api.Errno{e, d.Write(at, with), d.Write(0, with), d.Write(at, full(1)), d.Flush(), d.Fail(0, []int{1}), d.Fail(-1, nil), d.Refuse(0), d.Refuse(-1), d.Crash(nil), d.Crash([]int{1})}
}

// P10.1, P10.2, P10.3: the chapter's examples.
func TestExamples(t *testing.T) {
	d := fresh(t, 3)
	a, b := full('a'), full('b')
	ok(t, d.Write(0, a), d.Write(2, b), d.Flush(), d.Write(0, b), d.Write(2, a))

	ok(t, d.Crash([]int{0, 1}))
	if x, e := d.Read(0); len(x) != 0 || e != api.ErrDead {
		t.Errorf("of a dead one: %x, %v", x, e)
	}
	back(t, d)
	has(t, d, 'a', 0, 'a')

	none, e := sector.New(0)
	if none != nil {
		t.Error("a device of no sectors")
	}
	answers(t, "what may not be", []api.Errno{d.Write(3, a), d.Write(0, nil), e}, api.ErrRange, api.ErrArg, api.ErrArg)

	answers(t, "Fail", []api.Errno{d.Fail(0, []int{1}), d.Write(1, a)}, api.OK, api.ErrDead)
	back(t, d)
	has(t, d, 'a', 'a', 'a')

	answers(t, "Refuse", []api.Errno{d.Refuse(1), d.Write(1, b), d.Flush(), d.Refuse(-1), d.Flush()}, api.OK, api.OK, api.ErrSpace, api.OK, api.OK)
	has(t, d, 'a', 'b', 'a')
}

// P10.1: how many sectors a device may have; they are noughts, and no work was done.
func TestNew(t *testing.T) {
	for _, n := range []int{1, 2, 100, api.MaxSectors - 1, api.MaxSectors} {
		d := fresh(t, n)
		if d.Size() != n || d.Works() != 0 || d.Dead() {
			t.Errorf("%d: %d, %d, %v", n, d.Size(), d.Works(), d.Dead())
		}
		has(t, d, make([]byte, n)...)
		ok(t, d.Crash(nil))
		back(t, d)
		has(t, d, make([]byte, n)...)
	}
	for _, n := range []int{math.MinInt, -1, 0, api.MaxSectors + 1, math.MaxInt} {
		if d, e := sector.New(n); d != nil || e != api.ErrArg {
			t.Errorf("%d: %v, %v", n, d, e)
		}
	}
}

// The chapter ahead of P10.1: devices that are none.
func TestNone(t *testing.T) {
	for _, d := range []*sector.Device{nil, {}} {
		for _, right := range []bool{true, false} {
			for i, e := range told(t, d, right) {
				if e != api.ErrNil {
					t.Errorf("call %d: %v", i, e)
				}
			}
		}
		if e := d.Boot(); e != api.ErrNil || d.Size() != 0 || d.Works() != 0 || d.Dead() {
			t.Errorf("%v, %d, %d, %v", e, d.Size(), d.Works(), d.Dead())
		}
	}
}

// The chapter ahead of P10.1: dead devices, whatever they are asked; nothing of that is done.
func TestDead(t *testing.T) {
	d := fresh(t, 2)
	ok(t, d.Write(0, full(7)), d.Flush(), d.Write(1, full(8)), d.Crash([]int{1}))
	for _, right := range []bool{true, false, true} {
		for i, e := range told(t, d, right) {
			if e != api.ErrDead {
				t.Errorf("call %d: %v", i, e)
			}
		}
		if !d.Dead() || d.Size() != 2 || d.Works() != 3 {
			t.Errorf("%v, %d, %d", d.Dead(), d.Size(), d.Works())
		}
	}
	back(t, d)
	has(t, d, 7, 8)
	ok(t, d.Write(0, full(9)), d.Flush())
	has(t, d, 9, 8)
}

// P10.2: which sectors there are, and what may be written; what may not changes nothing.
func TestWrong(t *testing.T) {
	for _, n := range []int{1, 3, 128, api.MaxSectors} {
		d := fresh(t, n)
		ok(t, d.Write(0, full(1)), d.Write(n-1, full(2)))
		for _, i := range []int{math.MinInt, -n, -1, n, n + 1, api.MaxSectors, math.MaxInt} {
			if b, e := d.Read(i); len(b) != 0 || e != api.ErrRange {
				t.Errorf("%d of %d: %x, %v", i, n, b, e)
			}
			for _, b := range [][]byte{full(3), nil, full(3)[:127]} {
				if e := d.Write(i, b); e != api.ErrRange {
					t.Errorf("%d of %d, %d bytes: %v", i, n, len(b), e)
				}
			}
		}
		for _, many := range []int{0, 1, 127, 129, 256, 1 << 16} {
			if e := d.Write(n-1, make([]byte, many)); e != api.ErrArg {
				t.Errorf("%d bytes: %v", many, e)
			}
		}
		if e := d.Write(0, nil); e != api.ErrArg {
			t.Errorf("nil: %v", e)
		}
		if d.Works() != 2 {
			t.Errorf("%d works", d.Works())
		}
		want := make([]byte, n)
		want[0], want[n-1] = 1, 2
		if n == 1 {
			want[0] = 2
		}
		has(t, d, want...)
	}
}

// P10.2: each sector has what was written last, at once, each byte of it.
func TestWrite(t *testing.T) {
	d := fresh(t, 5)
	var kept [5][]byte
	for i := range kept {
		kept[i] = full(0)
	}
	for round := range 3 * api.SectorSize {
		i := round % len(kept)
		kept[i][round%api.SectorSize] += byte(round + 1)
		ok(t, d.Write(i, kept[i]))
		for j, want := range kept {
			if b, e := d.Read(j); !bytes.Equal(b, want) || e != api.OK {
				t.Fatalf("round %d, sector %d: %x, %v, not %x", round, j, b, e, want)
			}
		}
		if d.Works() != round+1 {
			t.Fatalf("%d works, not %d", d.Works(), round+1)
		}
	}
}

// P10.4: what is handed in is only read, its spare room neither written; and it is not kept.
func TestHandedIn(t *testing.T) {
	d := fresh(t, 2)
	room := full(1)
	room = append(room, full(2)...)
	b := room[:api.SectorSize]
	ok(t, d.Write(1, b))
	if !bytes.Equal(room, append(full(1), full(2)...)) {
		t.Errorf("%x", room)
	}
	b[0], b[127], room[128] = 9, 9, 9
	has(t, d, 0, 1)
	ok(t, d.Flush(), d.Write(1, full(3)))
	copy(b, full(4))
	ok(t, d.Crash(nil))
	back(t, d)
	has(t, d, 0, 1)

	for _, keep := range [][]int{{1, 0, 0, 0}, {1, 0, 1, 1, 1, 1}} {
		was := slices.Clone(keep)
		ok(t, d.Write(0, full(5)), d.Write(1, full(6)), d.Crash(keep[:1]))
		back(t, d)
		has(t, d, 5, 1)

		// What Fail was handed counts as it was then.
		ok(t, d.Write(0, full(7)), d.Write(1, full(8)), d.Fail(0, keep[:1]))
		if !slices.Equal(keep, was) {
			t.Errorf("%v, not %v", keep, was)
		}
		keep[0], keep[1] = 0, 1
		answers(t, "Flush", []api.Errno{d.Flush()}, api.ErrDead)
		back(t, d)
		has(t, d, 7, 1)
	}
}

// P10.4: what is answered is new memory, each time, without spare room in which something could lie.
func TestAnswered(t *testing.T) {
	d := fresh(t, 2)
	ok(t, d.Write(0, full(1)))
	for range 2 {
		for i, want := range []byte{1, 0} {
			one, _ := d.Read(i)
			two, _ := d.Read(i)
			for j := range one {
				one[j] = 9
			}
			one = append(one, full(9)...)
			if !bytes.Equal(two, full(want)) || len(one) != 256 {
				t.Errorf("%x", two)
			}
		}
		has(t, d, 1, 0)
		ok(t, d.Flush())
	}
	b, _ := d.Read(0)
	ok(t, d.Write(0, full(2)))
	if !bytes.Equal(b, full(1)) {
		t.Errorf("%x", b)
	}
	ok(t, d.Crash(nil))
	back(t, d)
	has(t, d, 1, 0)
}
