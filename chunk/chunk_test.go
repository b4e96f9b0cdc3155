package chunk_test

import (
	"fmt"
	"math"
	"math/rand"
	"reflect"
	"slices"
	"strings"
	"testing"

	"weirgate/api"
	"weirgate/chunk"
	"weirgate/disk"
)

// text is what a chunk has.
type text struct{ key, data string }

func open(t *testing.T, d *disk.Disk) *chunk.Log {
	t.Helper()
	l, e := chunk.Open(d)
	if e != api.OK {
		t.Fatal("Open:", e)
	}
	return l
}

// contents reads all chunks of a log; those that cannot be read are left out.
func contents(t *testing.T, l *chunk.Log) map[api.Place]text {
	t.Helper()
	m := map[api.Place]text{}
	last := 0
	for _, c := range l.List() {
		if c.At.Seq <= last || c.At.Seg < 0 || c.At.Seg >= l.Segments() || c.At.Slot < 0 || c.At.Slot >= api.SegChunks {
			t.Fatal("P14.2: List:", l.List())
		}
		last = c.At.Seq
		if key, data, e := l.Read(c.At); e == api.OK {
			if key != c.Key {
				t.Fatal("P14.4: Read has another key:", c, key)
			}
			m[c.At] = text{key, data}
		} else if key != "" || data != "" {
			t.Fatal("P14.4: results beside an error")
		}
	}
	return m
}

func TestExample(t *testing.T) {
	d := disk.New(300)
	l := open(t, d)
	if l.Segments() != 2 || l.Free() != 2 || len(l.List()) != 0 || d.Steps() != 0 {
		t.Error("P14.1: a new disk")
	}
	p, e := l.Append("k", "abc")
	if e != api.OK || p.Seg != 0 || p.Slot != 0 || p.Seq < 1 || l.Free() != 1 || !slices.Equal(l.List(), []api.Chunk{{At: p, Key: "k"}}) {
		t.Error("P14.3:", p, e)
	}
	if key, data, e := l.Read(p); key != "k" || data != "abc" || e != api.OK {
		t.Error("P14.4:", key, data, e)
	}
	if len(d.Open()) != 0 {
		t.Error("P14.3: the chunk is not durable")
	}
	d = d.Crash(nil)
	l = open(t, d)
	if !slices.Equal(l.List(), []api.Chunk{{At: p, Key: "k"}}) || l.Free() != 1 || d.Steps() != 0 {
		t.Error("P14.1: after a failure:", l.List())
	}
	q, e := l.Append("l", "")
	if e != api.OK || q.Seg != 1 || q.Slot != 0 || q.Seq <= p.Seq || l.Free() != 0 {
		t.Error("P14.3:", q, e)
	}
	if e := l.Drop(0); e != api.OK || l.Free() != 1 {
		t.Error("P14.5:", e)
	}
	if _, _, e := l.Read(p); e != api.ErrName {
		t.Error("P14.4: a chunk that was dropped:", e)
	}
	l = open(t, d.Crash(nil))
	if !slices.Equal(l.List(), []api.Chunk{{At: q, Key: "l"}}) || l.Free() != 1 {
		t.Error("P14.5: after a failure:", l.List())
	}
	if p, e := l.Append("k", strings.Repeat("x", 361)); p != (api.Place{}) || e != api.ErrLimit {
		t.Error("P14.3:", p, e)
	}
}

func TestErrors(t *testing.T) {
	if l, e := chunk.Open(disk.New(api.SegSectors - 1)); l != nil || e != api.ErrArg {
		t.Error("P14.1: no segment:", e)
	}
	small := disk.New(api.SegSectors - 1)
	small.Arm(0)
	small.Sync()
	if l, e := chunk.Open(small); l != nil || e != api.ErrArg {
		t.Error("P14.1: ErrArg comes first:", e)
	}
	d := disk.New(2*api.SegSectors - 1)
	l := open(t, d)
	long := strings.Repeat("k", api.MaxChunkKey)
	full := strings.Repeat("\xff", api.MaxChunk)
	p, e := l.Append(long, full)
	if key, data, f := l.Read(p); key != long || data != full || e != api.OK || f != api.OK || l.Segments() != 1 {
		t.Error("P14.3: the greatest chunk:", e, f)
	}
	for i, x := range []text{{long + "k", ""}, {"", full + "x"}, {long + "k", full + "x"}} {
		if q, e := l.Append(x.key, x.data); q != (api.Place{}) || e != api.ErrLimit {
			t.Error("P14.3: too long:", i, e)
		}
	}
	for i := 1; i < api.SegChunks; i++ {
		if q, e := l.Append(fmt.Sprint(i), ""); e != api.OK || q.Slot != i || q.Seg != 0 || q.Seq != p.Seq+i {
			t.Error("P14.3: the next slot:", q, e)
		}
	}
	if q, e := l.Append("x", ""); q != (api.Place{}) || e != api.ErrFull {
		t.Error("P14.3: full:", q, e)
	}
	if q, e := l.Append(long+"k", ""); q != (api.Place{}) || e != api.ErrLimit {
		t.Error("P14.3: ErrLimit comes before ErrFull:", e)
	}
	for i, q := range []api.Place{{}, {Seg: -1, Slot: 0, Seq: 1}, {Seg: 1, Seq: p.Seq}, {Slot: 1, Seq: p.Seq}, {Slot: 99, Seq: p.Seq}, {Seq: p.Seq + 1}, {Seg: math.MinInt}} {
		if key, data, e := l.Read(q); key != "" || data != "" || e != api.ErrName {
			t.Error("P14.4: no chunk:", i, e)
		}
	}
	for _, seg := range []int{-1, 1, math.MaxInt} {
		if e := l.Drop(seg); e != api.ErrArg {
			t.Error("P14.5: no segment:", e)
		}
		if l, e := l.Compact(seg); l != nil || e != api.ErrArg {
			t.Error("P14.6: no segment:", e)
		}
	}
	if l, e := l.Compact(0); l != nil || e != api.ErrFull {
		t.Error("P14.6: no room:", e)
	}
	if len(l.List()) != api.SegChunks {
		t.Error("P14.6: chunks are lost")
	}
	d.Arm(0)
	if e := l.Drop(0); e != api.ErrDown {
		t.Error("P14.5: the disk fails:", e)
	}
	if _, _, e := l.Read(p); e != api.ErrDown {
		t.Error("P14.4: the disk is down:", e)
	}
	if _, _, e := l.Read(api.Place{}); e != api.ErrName {
		t.Error("P14.4: ErrName comes first:", e)
	}
	if _, e := l.Append("x", full+"x"); e != api.ErrLimit {
		t.Error("P14.3: ErrLimit comes first:", e)
	}
	if _, e := l.Compact(0); e != api.ErrDown {
		t.Error("P14.6: the disk is down:", e)
	}
	if e := l.Drop(1); e != api.ErrArg {
		t.Error("P14.5: ErrArg comes first:", e)
	}
	if l, e := chunk.Open(d); l != nil || e != api.ErrDown {
		t.Error("P14.1: the disk is down:", e)
	}
}

func TestCompact(t *testing.T) {
	l := open(t, disk.New(3*api.SegSectors))
	var texts []text
	for i := range api.SegChunks + 3 {
		texts = append(texts, text{fmt.Sprint("k", i), strings.Repeat("d", i*20)})
		l.Append(texts[i].key, texts[i].data)
	}
	if l.Free() != 1 {
		t.Fatal("P14.1: Free:", l.Free())
	}
	places, e := l.Compact(1)
	if e != api.OK || len(places) != 3 || l.Free() != 1 {
		t.Fatal("P14.6: the current segment:", places, e)
	}
	for i, p := range places {
		if p.Seg != 2 || p.Slot != i {
			t.Error("P14.6: the new place:", p)
		}
		if key, data, e := l.Read(p); (text{key, data}) != texts[api.SegChunks+i] || e != api.OK {
			t.Error("P14.6: a moved chunk:", key, e)
		}
	}
	if p, e := l.Append("x", "y"); e != api.OK || p.Seg != 2 || p.Slot != 3 {
		t.Error("P14.6: the segment to which chunks were moved:", p, e)
	}
	if places, e = l.Compact(0); e != api.OK || len(places) != api.SegChunks || places[11].Slot != 15 || places[12].Seg != 1 || l.Free() != 1 {
		t.Error("P14.6: two segments:", places, e)
	}
	if places, e := l.Compact(0); e != api.OK || len(places) != 0 || l.Free() != 1 {
		t.Error("P14.6: an empty segment:", places, e)
	}
	if len(l.List()) != api.SegChunks+4 {
		t.Error("P14.6: chunks:", len(l.List()))
	}
	if e := l.Drop(1); e != api.OK || l.Free() != 2 {
		t.Error("P14.5:", e)
	}
	if p, e := l.Append("z", ""); e != api.OK || p.Seg != 0 || p.Slot != 0 {
		t.Error("P14.5: the dropped segment was the current one:", p, e)
	}
}

func TestCompactSpoilt(t *testing.T) {
	d := disk.New(3 * api.SegSectors)
	l := open(t, d)
	var places []api.Place
	for i := range 4 {
		p, _ := l.Append(fmt.Sprint(i), strings.Repeat("x", 300))
		places = append(places, p)
	}
	for i := range api.SegSectors {
		d.Rot(i)
		if _, _, e := l.Read(places[2]); e != api.OK {
			break
		}
	}
	readable := contents(t, l)
	moved, e := l.Compact(0)
	if e != api.ErrRot || moved != nil {
		t.Error("P14.6: a chunk that cannot be read:", moved, e)
	}
	if n := len(l.List()); n < 4 || n > 6 {
		t.Error("P14.6: chunks are lost:", n)
	}
	for p, x := range readable {
		if key, data, e := l.Read(p); (text{key, data}) != x || e != api.OK {
			t.Error("P14.6: the segment was dropped:", p, e)
		}
	}
	if p, e := l.Append("new", ""); e != api.OK || p.Seg == 0 {
		t.Error("P14.6: the segment is the current one still:", p, e)
	}
}

// world is what must be on a disk: chunks that were confirmed, and those that must not be found.
type world struct {
	kept, gone map[api.Place]text
	last       int
}

// play does random things with a log until the disk fails, and returns what it was about then.
func play(t *testing.T, r *rand.Rand, l *chunk.Log, w *world) (pending text, dropping int) {
	for {
		dropping = -1
		pending = text{fmt.Sprint(r.Intn(3)), strings.Repeat(string(rune('a'+r.Intn(3))), r.Intn(200))}
		if r.Intn(9) == 0 || l.Free() == 0 {
			dropping = r.Intn(l.Segments())
			if e := l.Drop(dropping); e == api.ErrDown {
				return text{}, dropping
			}
			for p, x := range w.kept {
				if p.Seg == dropping {
					delete(w.kept, p)
					w.gone[p] = x
				}
			}
			continue
		}
		p, e := l.Append(pending.key, pending.data)
		if e == api.ErrDown {
			return pending, -1
		}
		if e != api.OK || p.Seq <= w.last {
			t.Fatal("P14.3:", p, e, w.last)
		}
		w.last = p.Seq
		w.kept[p] = pending
	}
}

func TestFailures(t *testing.T) {
	for seed := range 300 {
		r := rand.New(rand.NewSource(int64(seed)))
		d := disk.New(3 * api.SegSectors)
		w := world{map[api.Place]text{}, map[api.Place]text{}, 0}
		for range 12 {
			l := open(t, d)
			d.Arm(r.Intn(60))
			pending, dropping := play(t, r, l, &w)
			keep := make([]int, r.Intn(6))
			for i := range keep {
				keep[i] = r.Intn(8)
			}
			d = d.Crash(keep)
			l = open(t, d)
			found := contents(t, l)
			if len(found) != len(l.List()) {
				t.Fatal("P14.7: a listed chunk cannot be read")
			}
			some, all := false, true
			for p, x := range w.kept {
				y, ok := found[p]
				if p.Seg == dropping {
					some, all = some || ok, all && ok
				} else if !ok {
					t.Fatal("P14.7: a chunk is lost:", seed, p)
				}
				if ok && x != y {
					t.Fatal("P14.7: another chunk:", seed, p)
				}
			}
			if some && !all {
				t.Fatal("P14.7: a part of a segment that was being dropped:", seed)
			}
			for p, x := range found {
				if y, ok := w.gone[p]; ok {
					t.Fatal("P14.8: a chunk has returned:", seed, p, y)
				}
				if _, ok := w.kept[p]; !ok && (x != pending || pending == (text{})) {
					t.Fatal("P14.7: a chunk from nowhere:", seed, p, x)
				}
			}
			for p, x := range w.kept {
				if _, ok := found[p]; !ok {
					w.gone[p] = x
				}
			}
			w.kept = found
			for p := range found {
				w.last = max(w.last, p.Seq)
			}
			if !reflect.DeepEqual(contents(t, open(t, d)), found) || d.Steps() != 0 {
				t.Fatal("P14.1: Open has changed something")
			}
		}
	}
}

// A chunk that a failure has left out must not be made whole by parts of a later one with nearly the same text.
func TestNoMixture(t *testing.T) {
	first, second := strings.Repeat("a", 300), strings.Repeat("a", 200)+strings.Repeat("b", 100)
	for armed := range 16 {
		for one := range 64 {
			for two := range 64 {
				if (one*64+two+armed)%7 != 0 { // a part of all cases is enough
					continue
				}
				d := disk.New(api.SegSectors)
				bits := func(n int) []int {
					var l []int
					for i := range 6 {
						l = append(l, n>>i&1)
					}
					return l
				}
				l := open(t, d)
				d.Arm(armed)
				l.Append("k", first)
				d = d.Crash(bits(one))
				l = open(t, d)
				if len(l.List()) > 0 {
					continue
				}
				d.Arm(armed)
				l.Append("k", second)
				for p, x := range contents(t, open(t, d.Crash(bits(two)))) {
					if x != (text{"k", second}) {
						t.Fatal("P14.8: a mixture:", armed, one, two, p)
					}
				}
			}
		}
	}
}

func TestRot(t *testing.T) {
	base := disk.New(3 * api.SegSectors)
	l := open(t, base)
	rest := map[api.Place]text{}
	for i := range api.SegChunks + 5 {
		x := text{fmt.Sprint("k", i), strings.Repeat("z", 17*i)}
		p, _ := l.Append(x.key, x.data)
		rest[p] = x
	}
	l.Drop(0)
	for i := range 4 {
		x := text{fmt.Sprint("new", i), "data"}
		p, _ := l.Append(x.key, x.data)
		rest[p] = x
	}
	gone := map[api.Place]bool{}
	for p := range rest {
		gone[p] = p.Seg == 0 && p.Seq <= api.SegChunks
	}
	r := rand.New(rand.NewSource(3))
	for i := range 3000 {
		d := base.Crash(nil)
		sector := r.Intn(3 * api.SegSectors)
		before := open(t, d)
		if i%3 == 0 {
			d.Rot(sector)
		} else {
			d.Flip(sector, r.Intn(512))
		}
		for _, l := range []*chunk.Log{before, open(t, d)} {
			found := contents(t, l)
			for p, x := range found {
				if rest[p] != x || gone[p] {
					t.Fatal("P14.9: something else is read:", p, x)
				}
			}
			for _, c := range l.List() {
				if _, ok := rest[c.At]; !ok || gone[c.At] {
					t.Fatal("P14.9: a chunk that was not appended, or was dropped:", c)
				}
				if _, _, e := l.Read(c.At); e != api.OK && e != api.ErrRot && e != api.ErrSeal || e == api.ErrRot && i%3 != 0 {
					t.Fatal("P14.4: the error of Read:", e)
				}
			}
			for p, x := range rest {
				if _, ok := found[p]; !ok && !gone[p] && p.Seg != sector/api.SegSectors {
					t.Fatal("P14.9: a chunk in another segment is lost:", p, x)
				}
			}
		}
	}
}

// Whatever was spoilt, dropped chunks do not return when their segments are used again.
func TestRotAndUse(t *testing.T) {
	for seed := range 100 {
		r := rand.New(rand.NewSource(int64(seed)))
		d := disk.New(2 * api.SegSectors)
		gone, last := map[api.Place]bool{}, 0
		for range 10 {
			l := open(t, d)
			for _, c := range l.List() {
				if gone[c.At] {
					t.Fatal("P14.8: a dropped chunk has returned:", seed, c)
				}
			}
			for range 1 + r.Intn(9) {
				if p, e := l.Append("k", fmt.Sprint(r.Intn(5))); e == api.OK {
					if p.Seq <= last {
						t.Fatal("numbers do not grow:", seed, p, last)
					}
					last = p.Seq
				}
			}
			seg := r.Intn(2)
			for _, c := range l.List() {
				gone[c.At] = gone[c.At] || c.At.Seg == seg
			}
			if e := l.Drop(seg); e != api.OK {
				t.Fatal("P14.5:", e)
			}
			if r.Intn(2) == 0 {
				d.Rot(api.SegSectors * r.Intn(2))
			}
			d = d.Crash(nil)
		}
	}
}

func TestRoom(t *testing.T) {
	r := rand.New(rand.NewSource(5))
	for range 30 {
		d := disk.New(4 * api.SegSectors)
		l := open(t, d)
		for range 40 {
			l.Append("k", "")
		}
		for seg := range 4 {
			if r.Intn(2) == 0 {
				l.Drop(seg)
			}
		}
		for range l.Free() * api.SegChunks {
			if _, e := l.Append("k", "x"); e != api.OK {
				t.Fatal("P14.10:", e)
			}
		}
	}
}
