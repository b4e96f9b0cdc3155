package disk_test

import (
	"math"
	"math/rand"
	"slices"
	"testing"

	"weirgate/api"
	"weirgate/disk"
)

func filled(b byte) api.Sector {
	var s api.Sector
	for i := range s {
		s[i] = b
	}
	return s
}

func half(first, second byte) api.Sector {
	s := filled(first)
	for i := 32; i < 64; i++ {
		s[i] = second
	}
	return s
}

func wantRead(t *testing.T, what string, d *disk.Disk, i int, s api.Sector, e api.Errno) {
	t.Helper()
	if got, f := d.Read(i); got != s || f != e {
		t.Error(what, "Read of", i, got, f)
	}
}

func TestNew(t *testing.T) {
	for _, n := range []int{0, -1, api.MaxSectors + 1, math.MaxInt, math.MinInt} {
		if disk.New(n) != nil {
			t.Error("P13.1: a disk with", n)
		}
	}
	for _, n := range []int{1, 4, api.MaxSectors} {
		d := disk.New(n)
		if d.Size() != n || d.Steps() != 0 || d.Down() || len(d.Open()) != 0 {
			t.Error("P13.1: a new disk with", n)
		}
		wantRead(t, "P13.1:", d, n-1, api.Sector{}, api.OK)
	}
}

func TestExample(t *testing.T) {
	d := disk.New(4)
	a, b := filled(1), filled(2)
	if e := d.Write(2, a); e != api.OK {
		t.Error("P13.2: Write:", e)
	}
	wantRead(t, "P13.2:", d, 2, a, api.OK)
	if l := d.Open(); !slices.Equal(l, []int{2}) {
		t.Error("P13.1: Open:", l)
	}
	d.Write(2, b)
	for keep, want := range []api.Sector{{}, a, b, {}, half(2, 1)} {
		e := api.OK
		if keep == 3 {
			e = api.ErrRot
		}
		for _, k := range []int{keep, keep + 5, keep - 5, keep - 500} {
			c := d.Crash([]int{k})
			wantRead(t, "P13.3:", c, 2, want, e)
			if c.Size() != 4 || c.Steps() != 0 || c.Down() || len(c.Open()) != 0 {
				t.Error("P13.3: the disk after a failure")
			}
		}
	}
	wantRead(t, "P13.3: without keep:", d.Crash(nil), 2, api.Sector{}, api.OK)
	wantRead(t, "P13.3: the disk itself:", d, 2, b, api.OK)
	if e := d.Sync(); e != api.OK || len(d.Open()) != 0 || d.Steps() != 3 {
		t.Error("P13.2: Sync:", e)
	}
	if e := d.Flip(2, 9); e != api.OK {
		t.Error("P13.4: Flip:", e)
	}
	flipped := b
	flipped[1] = 0
	wantRead(t, "P13.4:", d, 2, flipped, api.OK)
	if e := d.Rot(2); e != api.OK {
		t.Error("P13.4: Rot:", e)
	}
	wantRead(t, "P13.4:", d, 2, api.Sector{}, api.ErrRot)
	d.Write(2, a)
	wantRead(t, "P13.2: a rotten sector:", d, 2, a, api.OK)
	if d.Steps() != 4 {
		t.Error("P13.4: Flip and Rot are no steps:", d.Steps())
	}
	d.Arm(0)
	if d.Down() {
		t.Error("P13.1: an armed disk is down")
	}
	if e := d.Write(0, a); e != api.ErrDown || !d.Down() || d.Steps() != 4 {
		t.Error("P13.1: an armed disk:", e)
	}
	wantRead(t, "P13.1: down:", d, 0, api.Sector{}, api.ErrDown)
}

func TestRotten(t *testing.T) {
	d := disk.New(3)
	d.Write(1, filled(7))
	d.Sync()
	d.Rot(1)
	d.Flip(1, 5)
	wantRead(t, "P13.4: Flip of a rotten sector:", d, 1, api.Sector{}, api.ErrRot)
	d.Write(1, filled(8))
	d.Flip(1, 3)
	d.Rot(2)
	wantRead(t, "P13.4: open writes do not change:", d, 1, filled(8), api.OK)
	wantRead(t, "P13.3: rotten before:", d.Crash([]int{0}), 1, api.Sector{}, api.ErrRot)
	wantRead(t, "P13.3: written:", d.Crash([]int{1}), 1, filled(8), api.OK)
	wantRead(t, "P13.3: rotten now:", d.Crash([]int{2}), 1, api.Sector{}, api.ErrRot)
	wantRead(t, "P13.3: torn over a rotten one:", d.Crash([]int{3}), 1, half(8, 0), api.OK)
	wantRead(t, "P13.3: without open writes:", d.Crash([]int{1}), 2, api.Sector{}, api.ErrRot)
	d.Sync()
	wantRead(t, "P13.2: synced over a rotten one:", d, 1, filled(8), api.OK)
	d.Write(0, filled(3))
	d.Flip(0, 0)
	flipped := api.Sector{1}
	wantRead(t, "P13.4: what it is durably:", d.Crash([]int{0}), 0, flipped, api.OK)
	torn := half(3, 0)
	wantRead(t, "P13.3: torn over zeros:", d.Crash([]int{3}), 0, torn, api.OK)
	d.Write(0, api.Sector{})
	d.Sync()
	wantRead(t, "P13.2: zeros:", d, 0, api.Sector{}, api.OK)
}

func TestFlip(t *testing.T) {
	for bit := range 512 {
		d := disk.New(1)
		if e := d.Flip(0, bit); e != api.OK {
			t.Error("P13.4: Flip:", bit, e)
		}
		var s api.Sector
		s[bit/8] = 1 << (bit % 8)
		wantRead(t, "P13.4:", d, 0, s, api.OK)
		d.Flip(0, bit)
		wantRead(t, "P13.4:", d, 0, api.Sector{}, api.OK)
	}
}

func TestErrors(t *testing.T) {
	d := disk.New(3)
	for _, i := range []int{-1, 3, math.MaxInt, math.MinInt} {
		wantRead(t, "P13.2:", d, i, api.Sector{}, api.ErrArg)
		if e := d.Write(i, filled(1)); e != api.ErrArg {
			t.Error("P13.2: Write of", i, e)
		}
		if e := d.Flip(i, 0); e != api.ErrArg {
			t.Error("P13.4: Flip of", i, e)
		}
		if e := d.Rot(i); e != api.ErrArg {
			t.Error("P13.4: Rot of", i, e)
		}
	}
	for _, bit := range []int{-1, 512, math.MinInt} {
		if e := d.Flip(0, bit); e != api.ErrArg {
			t.Error("P13.4: Flip of the bit", bit, e)
		}
	}
	if d.Steps() != 0 || len(d.Open()) != 0 {
		t.Error("P13.1: steps that were not done")
	}
	d.Arm(0)
	if e := d.Write(9, filled(1)); e != api.ErrArg || d.Down() {
		t.Error("P13.1: a Write of no sector is no step:", e)
	}
	if e := d.Sync(); e != api.ErrDown || !d.Down() {
		t.Error("P13.1: Sync of an armed disk:", e)
	}
	wantRead(t, "P13.1: down:", d, 9, api.Sector{}, api.ErrDown)
	if d.Write(9, filled(1)) != api.ErrDown || d.Sync() != api.ErrDown || d.Flip(9, -1) != api.ErrDown || d.Rot(9) != api.ErrDown || d.Steps() != 0 {
		t.Error("P13.1: ErrDown comes first")
	}
	d.Arm(5)
	if d.Sync() != api.ErrDown {
		t.Error("P13.1: down for ever")
	}
}

func TestArm(t *testing.T) {
	for n := range 6 {
		d := disk.New(2)
		d.Write(0, filled(9))
		d.Arm(n)
		done := 0
		for i := range 10 {
			var e api.Errno
			if i%3 == 2 {
				e = d.Sync()
			} else {
				e = d.Write(1, filled(byte(i)))
			}
			if (e == api.OK) != (i < n) {
				t.Error("P13.7: armed with", n, "step", i, e)
			}
			if e == api.OK {
				done++
			}
		}
		if done != n || d.Steps() != n+1 || !d.Down() {
			t.Error("P13.7: armed with", n, done)
		}
	}
	d := disk.New(2)
	d.Arm(0)
	d.Arm(-1)
	if e := d.Write(0, filled(1)); e != api.OK {
		t.Error("P13.1: disarmed:", e)
	}
	d.Arm(0)
	d.Arm(math.MinInt)
	if e := d.Sync(); e != api.OK {
		t.Error("P13.1: disarmed:", e)
	}
	d.Arm(2)
	d.Arm(1)
	d.Sync()
	if e := d.Sync(); e != api.ErrDown {
		t.Error("P13.1: armed anew:", e)
	}
}

// model is a disk as the chapter describes it: for each sector what it is durably, and its open writes.
type model struct {
	durable []api.Sector
	rotten  []bool
	open    [][]api.Sector
}

func (m *model) crash(keep []int) {
	n := 0
	for i, w := range m.open {
		if len(w) == 0 {
			continue
		}
		x := 0
		if len(keep) > 0 {
			x = keep[n%len(keep)]
		}
		n++
		k := len(w)
		r := x % (k + 3)
		if r < 0 {
			r += k + 3
		}
		before := m.durable[i]
		if m.rotten[i] {
			before = api.Sector{}
		}
		if k > 1 {
			before = w[k-2]
		}
		switch {
		case r == 0:
		case r <= k:
			m.durable[i], m.rotten[i] = w[r-1], false
		case r == k+1:
			m.rotten[i] = true
		default:
			s := w[k-1]
			for b := 32; b < 64; b++ {
				s[b] = before[b]
			}
			m.durable[i], m.rotten[i] = s, false
		}
		m.open[i] = nil
	}
}

func TestRandom(t *testing.T) {
	r := rand.New(rand.NewSource(1))
	for range 300 {
		const size = 5
		d := disk.New(size)
		m := model{make([]api.Sector, size), make([]bool, size), make([][]api.Sector, size)}
		for range 60 {
			i := r.Intn(size)
			switch r.Intn(12) {
			case 0:
				d.Sync()
				for i, w := range m.open {
					if len(w) > 0 {
						m.durable[i], m.rotten[i], m.open[i] = w[len(w)-1], false, nil
					}
				}
			case 1:
				d.Rot(i)
				m.rotten[i] = true
			case 2:
				bit := r.Intn(512)
				d.Flip(i, bit)
				if !m.rotten[i] {
					m.durable[i][bit/8] ^= 1 << (bit % 8)
				}
			case 3:
				var keep []int
				for range r.Intn(4) {
					keep = append(keep, r.Intn(40)-20)
				}
				old, kept := d, slices.Clone(keep)
				opened := d.Open()
				d = d.Crash(keep)
				m.crash(keep)
				if !slices.Equal(keep, kept) || !slices.Equal(old.Open(), opened) {
					t.Fatal("P13.3: Crash has changed the disk or its argument")
				}
				old.Write(i, filled(99))
				old.Sync()
			default:
				s := half(byte(r.Intn(256)), byte(r.Intn(256)))
				d.Write(i, s)
				m.open[i] = append(m.open[i], s)
			}
			var open []int
			for i, w := range m.open {
				s, e := d.Read(i)
				for range w {
					open = append(open, i)
				}
				switch {
				case len(w) > 0:
					if s != w[len(w)-1] || e != api.OK {
						t.Fatal("P13.2: an open write")
					}
				case m.rotten[i]:
					if s != (api.Sector{}) || e != api.ErrRot {
						t.Fatal("P13.2: a rotten sector")
					}
				case s != m.durable[i] || e != api.OK:
					t.Fatal("P13.2, P13.5, P13.6: what was durable")
				}
			}
			if !slices.Equal(open, d.Open()) {
				t.Fatal("P13.1: Open:", open, d.Open())
			}
		}
	}
}
