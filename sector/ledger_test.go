package sector_test

import (
	"bytes"
	"math/rand"
	"slices"
	"testing"

	"muslin/api"
	"muslin/sector"
)

// ledger is a device by other means: all that was ever written to it, one behind the other.
type ledger struct {
	size         int
	list         []entry
	sure         int // entries
	done         int
	fail, refuse int // at how many works; below 0: at none
	keep         []int
	dead         bool
}

type entry struct {
	at int
	b  string
}

func (l *ledger) read(i int) (string, api.Errno) {
	if l.dead {
		return "", api.ErrDead
	}
	if i < 0 || l.size <= i {
		return "", api.ErrRange
	}
	for _, w := range slices.Backward(l.list) {
		if w.at == i {
			return w.b, api.OK
		}
	}
	return string(full(0)), api.OK
}

func (l *ledger) write(i int, b []byte) api.Errno {
	if _, e := l.read(i); e != api.OK {
		return e
	}
	if len(b) != 128 {
		return api.ErrArg
	}
	if l.refuse >= 0 && l.refuse <= l.done {
		return api.ErrSpace
	}
	l.list = append(l.list, entry{i, string(b)})
	if l.fail == l.done {
		l.crash(l.keep)
		return api.ErrDead
	}
	l.done++
	return api.OK
}

func (l *ledger) flush() api.Errno {
	if l.dead {
		return api.ErrDead
	}
	if l.refuse >= 0 && l.refuse <= l.done {
		return api.ErrSpace
	}
	if l.fail == l.done {
		l.crash(l.keep)
		return api.ErrDead
	}
	l.done++
	l.sure = len(l.list)
	return api.OK
}

func (l *ledger) crash(keep []int) api.Errno {
	if l.dead {
		return api.ErrDead
	}
	var written []int
	for i := range l.size {
		if slices.ContainsFunc(l.list[l.sure:], func(w entry) bool { return w.at == i }) {
			written = append(written, i)
		}
	}
	left := slices.Clone(l.list[:l.sure])
	for _, w := range l.list[l.sure:] {
		if k := slices.Index(written, w.at); k < len(keep) && keep[k]%2 != 0 {
			left = append(left, w)
		}
	}
	l.list, l.sure, l.dead = left, len(left), true
	return api.OK
}

func (l *ledger) will(when *int, works int) api.Errno {
	if l.dead {
		return api.ErrDead
	}
	*when = works
	if works >= 0 {
		*when += l.done
	}
	return api.OK
}

func (l *ledger) boot() api.Errno {
	if l.dead {
		l.dead, l.fail, l.refuse = false, -1, -1
	}
	return api.OK
}

// play lets a device and a ledger do what numbers tell, till there are none, and holds them to each other.
func play(t *testing.T, next func() (int, bool)) {
	t.Helper()
	n := func() int { x, _ := next(); return x }
	size := 1 + n()%6
	d, l := fresh(t, size), &ledger{size: size, fail: -1, refuse: -1}
	keep := func() (k []int) {
		for range n() % 5 {
			k = append(k, n()-128)
		}
		return k
	}
	for step := 0; ; step++ {
		kind, more := next()
		if !more {
			return
		}
		var got, want api.Errno
		switch kind % 16 {
		case 0:
			k := keep()
			got, want = d.Crash(k), l.crash(k)
		case 1:
			works, k := n()%8-1, keep()
			got, want = d.Fail(works, k), l.will(&l.fail, works)
			if want == api.OK {
				l.keep = k
			}
		case 2:
			works := n()%8 - 2
			got, want = d.Refuse(works), l.will(&l.refuse, works)
		case 3, 4:
			got, want = d.Boot(), l.boot()
		case 5, 6, 7:
			got, want = d.Flush(), l.flush()
		case 8:
			i, b := n()%(size+2)-1, make([]byte, 126+n()%4)
			got, want = d.Write(i, b), l.write(i, b)
		default:
			i, b := n()%size, full(0)
			b[n()%128], b[127] = byte(n()), byte(step)
			got, want = d.Write(i, b), l.write(i, b)
		}
		if got != want {
			t.Fatalf("step %d: %v, not %v", step, got, want)
		}
		if d.Size() != size || d.Works() != l.done || d.Dead() != l.dead {
			t.Fatalf("step %d: %d, %d, %v, not %d, %d, %v", step, d.Size(), d.Works(), d.Dead(), size, l.done, l.dead)
		}
		for i := -1; i <= size; i++ {
			b, e := d.Read(i)
			if x, y := l.read(i); string(b) != x || e != y {
				t.Fatalf("step %d, sector %d: %x, %v, not %x, %v", step, i, b, e, x, y)
			}
		}
	}
}

// P10.1 to P10.5: drawn works, and losses, held to a ledger.
func TestDrawn(t *testing.T) {
	draw := rand.New(rand.NewSource(101))
	for range 1500 {
		left := 1 + draw.Intn(300)
		play(t, func() (int, bool) {
			left--
			return draw.Intn(256), left >= 0
		})
	}
}

// P10.5: wherever the power goes in a list of works, whatever is kept, each sector has what it was written last, or what was sure.
func TestWhereverItGoes(t *testing.T) {
	// A sector, by its number, or a flush.
	works := []int{0, 1, 0, -1, 2, 1, 1, -1, -1, 0, 2, 2, 1, -1, 0}
	for at := range len(works) + 1 {
		for keep := range 8 {
			d := fresh(t, 3)
			ok(t, d.Fail(at, []int{keep, keep >> 1, keep >> 2}))
			var last, sure, now [3]byte
			for n, w := range works {
				want := api.OK
				if n == at {
					want = api.ErrDead
				} else if n > at {
					break
				}
				if w < 0 {
					answers(t, "Flush", []api.Errno{d.Flush()}, want)
					if n < at {
						sure = last
					}
					continue
				}
				last[w] = byte(n + 1)
				answers(t, "Write", []api.Errno{d.Write(w, full(last[w]))}, want)
			}
			if at == len(works) {
				ok(t, d.Crash([]int{keep, keep >> 1, keep >> 2}))
			}
			back(t, d)
			kept := 0
			for i := range now {
				b, _ := d.Read(i)
				now[i] = b[0]
				if now[i] != last[i] && now[i] != sure[i] {
					t.Errorf("behind %d, sector %d: %d, not %d, nor %d", at, i, now[i], last[i], sure[i])
				}
				if last[i] != sure[i] {
					if now[i] == last[i] != (keep>>kept&1 == 1) {
						t.Errorf("behind %d, keep %b, sector %d: %d", at, keep, i, now[i])
					}
					kept++
				}
			}
			has(t, d, now[:]...)
		}
	}
}

// P10.6: a sector is as if it were the only one of its device, if the same is kept of it.
func TestAlone(t *testing.T) {
	const sectors = 4
	draw := rand.New(rand.NewSource(106))
	for range 300 {
		all := fresh(t, sectors)
		var alone [sectors]*sector.Device
		for i := range alone {
			alone[i] = fresh(t, 1)
		}
		for range 10 {
			var written [sectors]bool
			for range draw.Intn(12) {
				if draw.Intn(4) == 0 {
					written = [sectors]bool{}
					ok(t, all.Flush())
					for _, one := range alone {
						ok(t, one.Flush())
					}
					continue
				}
				i, b := draw.Intn(sectors), full(byte(draw.Intn(256)))
				written[i] = true
				ok(t, all.Write(i, b), alone[i].Write(0, b))
			}
			var keep []int
			for i, one := range alone {
				k := draw.Intn(2)
				if written[i] {
					keep = append(keep, k)
				}
				ok(t, one.Crash([]int{k}))
			}
			ok(t, all.Crash(keep))
			back(t, all)
			for i, one := range alone {
				back(t, one)
				x, _ := all.Read(i)
				y, _ := one.Read(0)
				if !bytes.Equal(x, y) {
					t.Fatalf("sector %d: %x, not %x", i, x, y)
				}
			}
		}
	}
}

// P10.1 to P10.5: works, and losses, that a fuzzer finds, held to a ledger.
func FuzzDevice(f *testing.F) {
	f.Add([]byte{2, 9, 0, 0, 1, 5, 9, 0, 0, 2, 9, 1, 0, 3, 0, 2, 128, 129, 3})
	f.Add([]byte{1, 9, 0, 0, 1, 1, 1, 1, 129, 9, 0, 7, 7, 3, 2, 2, 5, 5})
	f.Fuzz(func(t *testing.T, b []byte) {
		if len(b) > 2000 {
			return
		}
		play(t, func() (int, bool) {
			if len(b) == 0 {
				return 0, false
			}
			x := int(b[0])
			b = b[1:]
			return x, true
		})
	})
}
