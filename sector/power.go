package sector

import (
	"maps"
	"slices"

	"muslin/api"
)

// never is as many works as one waits for what does not come.
const never = -1

// Crash lets the power go; keep tells which of the sectors that were written since the last flush keep what they have.
func (d *Device) Crash(keep []int) api.Errno {
	if e := d.alive(); e != api.OK {
		return e
	}
	d.lose(keep)
	return api.OK
}

// Fail lets the power go in the midst of the work behind so many (below 0: of none).
func (d *Device) Fail(works int, keep []int) api.Errno {
	if e := d.alive(); e != api.OK {
		return e
	}
	// There are never more sectors that were written than there are.
	d.fail, d.keep = works, slices.Clone(keep[:min(len(keep), len(d.now))])
	return api.OK
}

// Refuse lets it refuse all works behind so many (below 0: none).
func (d *Device) Refuse(works int) api.Errno {
	if e := d.alive(); e != api.OK {
		return e
	}
	d.refuse = works
	return api.OK
}

// Boot lets the power come back.
func (d *Device) Boot() api.Errno {
	if d.none() {
		return api.ErrNil
	}
	if d.dead {
		d.dead, d.fail, d.refuse, d.keep = false, never, never, nil
	}
	return api.OK
}

// Dead tells whether the power is gone.
func (d *Device) Dead() bool { return d.alive() == api.ErrDead }

// work does a work: what it does up to its midst, where the power may go, and the rest.
func (d *Device) work(midst, rest func()) api.Errno {
	if d.refuse == 0 {
		return api.ErrSpace
	}
	midst()
	if d.fail == 0 {
		d.lose(d.keep)
		return api.ErrDead
	}
	rest()
	d.done++
	for _, left := range [...]*int{&d.fail, &d.refuse} {
		if *left > 0 {
			*left--
		}
	}
	return api.OK
}

// lose lets the power go: what is left is sure.
func (d *Device) lose(keep []int) {
	for k, i := range slices.Sorted(maps.Keys(d.sure)) {
		if k >= len(keep) || keep[k]&1 == 0 {
			d.now[i] = d.sure[i]
		}
	}
	clear(d.sure)
	d.dead = true
}
