package link_test

import (
	"fmt"
	"math"
	"math/rand"
	"reflect"
	"slices"
	"strings"
	"testing"

	"weirgate/api"
	"weirgate/link"
)

const (
	sent = 1 << 40
	next = 1 << 41
)

var long = strings.Repeat("x", api.MaxBody+1)

func message(seq int, body string) api.Frame { return api.Frame{Seq: seq, Body: body} }
func summary(seq int, body string) api.Frame { return api.Frame{Sum: true, Seq: seq, Body: body} }

func out(t *testing.T, bodies ...string) api.Outbox {
	t.Helper()
	var o api.Outbox
	for _, b := range bodies {
		var e api.Errno
		if o, e = link.Put(o, b); e != api.OK {
			t.Fatal("Put:", e)
		}
	}
	return o
}

func TestValid(t *testing.T) {
	many := make([]string, api.MaxQueue+1)
	for i, o := range []api.Outbox{{}, {Base: sent, Acked: sent}, {Base: 5, Acked: 6, Summary: long[1:], Queue: []string{long[1:]}}, {Queue: many[1:], Acked: 1000}} {
		if !link.ValidOut(o) {
			t.Error("a valid outbox:", i)
		}
	}
	for i, o := range []api.Outbox{{Base: -1}, {Base: sent + 1}, {Acked: -1}, {Base: sent, Acked: sent + 1, Queue: []string{""}}, {Acked: 1}, {Base: 5, Acked: 7, Queue: []string{""}}, {Queue: many}, {Summary: long}, {Queue: []string{long}}, {Base: math.MaxInt, Queue: many[1:]}} {
		a, e1 := link.Put(o, "")
		b, e2 := link.Fold(o, o.Base, "")
		f, e3 := link.Frames(o, 1)
		c, e4 := link.Acknowledge(o, 0)
		if link.ValidOut(o) || !reflect.DeepEqual(a, api.Outbox{}) || !reflect.DeepEqual(b, a) || !reflect.DeepEqual(c, a) || f != nil || e1 != 1 || e2 != 1 || e3 != 1 || e4 != 1 {
			t.Error("an outbox that is not valid:", i, e1, e2, e3, e4)
		}
	}
	var ahead []api.Frame
	for i := range api.MaxAhead + 1 {
		ahead = append(ahead, message(i+2, ""))
	}
	for i, x := range []api.Inbox{{}, {Next: next}, {Next: 1, Ahead: ahead[:64]}, {Next: next - 1, Ahead: []api.Frame{message(next, long[1:])}}} {
		if !link.ValidIn(x) {
			t.Error("a valid inbox:", i)
		}
	}
	for i, x := range []api.Inbox{{Next: -1}, {Next: next + 1}, {Ahead: ahead}, {Next: 2, Ahead: ahead[:1]}, {Next: 3, Ahead: ahead[:1]}, {Ahead: []api.Frame{summary(3, "")}}, {Ahead: []api.Frame{message(3, ""), message(3, "")}}, {Ahead: []api.Frame{message(3, ""), message(2, "")}}, {Ahead: []api.Frame{message(next+1, "")}}, {Ahead: []api.Frame{message(3, long)}}} {
		if y, f, e := link.Receive(x, message(0, "")); link.ValidIn(x) || !reflect.DeepEqual(y, x) || f != nil || e != api.ErrArg {
			t.Error("an inbox that is not valid:", i, e)
		}
	}
}

func TestSender(t *testing.T) {
	o := out(t, "a", "b", "c")
	if f, e := link.Frames(o, 2); !slices.Equal(f, []api.Frame{message(0, "a"), message(1, "b")}) || e != api.OK {
		t.Error("P33.3:", f, e)
	}
	old := slices.Clone(o.Queue)
	p, e := link.Acknowledge(o, 2)
	if e != api.OK || !reflect.DeepEqual(p, api.Outbox{Base: 2, Acked: 2, Queue: []string{"c"}}) || !slices.Equal(o.Queue, old) {
		t.Error("P33.4:", p, e)
	}
	if f, _ := link.Frames(p, 9); !slices.Equal(f, []api.Frame{message(2, "c")}) {
		t.Error("P33.3:", f)
	}
	p, e = link.Fold(o, 2, "ab")
	if e != api.OK || !reflect.DeepEqual(p, api.Outbox{Base: 2, Summary: "ab", Queue: []string{"c"}}) || !slices.Equal(o.Queue, old) {
		t.Error("P33.2:", p, e)
	}
	for most, want := range [][]api.Frame{nil, {summary(2, "ab")}, {summary(2, "ab"), message(2, "c")}, {summary(2, "ab"), message(2, "c")}} {
		if f, e := link.Frames(p, most); !slices.Equal(f, want) || e != api.OK {
			t.Error("P33.3:", most, f, e)
		}
	}
	for i, x := range []struct {
		next int
		want api.Outbox
		e    api.Errno
	}{
		{0, p, 0}, {1, api.Outbox{Base: 2, Acked: 1, Summary: "ab", Queue: []string{"c"}}, 0}, {2, api.Outbox{Base: 2, Acked: 2, Summary: "ab", Queue: []string{"c"}}, 0}, {3, api.Outbox{Base: 3, Acked: 3}, 0}, {4, api.Outbox{}, 1}, {-1, api.Outbox{}, 1}, {math.MinInt, api.Outbox{}, 1},
	} {
		if q, e := link.Acknowledge(p, x.next); !reflect.DeepEqual(q, x.want) || e != x.e {
			t.Error("P33.4:", i, q, e)
		}
	}
	acked := api.Outbox{Base: 2, Acked: 2, Summary: "ab", Queue: []string{"c"}}
	if q, e := link.Acknowledge(acked, 1); !reflect.DeepEqual(q, acked) || e != api.OK {
		t.Error("P33.4: a lesser number:", q, e)
	}
	if f, _ := link.Frames(acked, 9); !slices.Equal(f, []api.Frame{message(2, "c")}) {
		t.Error("P33.3: a confirmed summary:", f)
	}
	for i, x := range []struct {
		upto int
		sum  string
		want api.Outbox
		e    api.Errno
	}{
		{2, "", api.Outbox{Base: 2, Queue: []string{"c"}}, 0}, {3, long[1:], api.Outbox{Base: 3, Summary: long[1:]}, 0}, {1, "", api.Outbox{}, 1}, {4, "", api.Outbox{}, 1}, {2, long, api.Outbox{}, 1}, {math.MaxInt, "", api.Outbox{}, 1},
	} {
		if q, e := link.Fold(p, x.upto, x.sum); !reflect.DeepEqual(q, x.want) || e != x.e {
			t.Error("P33.2:", i, e)
		}
	}
	if f, e := link.Frames(o, -1); f != nil || e != api.ErrArg {
		t.Error("P33.3: most is negative:", e)
	}
	full := api.Outbox{Queue: make([]string, api.MaxQueue)}
	for i, x := range []struct {
		o    api.Outbox
		body string
		e    api.Errno
	}{{full, "", 2}, {full, long, 1}, {api.Outbox{Base: sent, Acked: 3}, "", 2}, {api.Outbox{Base: sent - 1}, "a", 0}, {api.Outbox{Base: sent - 1, Queue: []string{"a"}}, "b", 2}, {api.Outbox{}, long[1:], 0}} {
		q, e := link.Put(x.o, x.body)
		if e != x.e || e == api.OK && (len(q.Queue) != 1 || q.Queue[0] != x.body) || e != api.OK && !reflect.DeepEqual(q, api.Outbox{}) {
			t.Error("P33.1:", i, e)
		}
	}
}

func TestReceiver(t *testing.T) {
	var i api.Inbox
	i, f, e := link.Receive(i, message(1, "b"))
	if e != api.OK || len(f) != 0 || !reflect.DeepEqual(i, api.Inbox{Ahead: []api.Frame{message(1, "b")}}) {
		t.Error("P33.5:", i, f, e)
	}
	old := slices.Clone(i.Ahead)
	k, f, e := link.Receive(i, message(0, "a"))
	if e != api.OK || !slices.Equal(f, []api.Frame{message(0, "a"), message(1, "b")}) || !reflect.DeepEqual(k, api.Inbox{Next: 2}) || !slices.Equal(old, i.Ahead) {
		t.Error("P33.5:", k, f, e)
	}
	c, _, _ := link.Receive(api.Inbox{}, message(2, "c"))
	k, f, e = link.Receive(c, summary(2, "ab"))
	if e != api.OK || !slices.Equal(f, []api.Frame{summary(2, "ab"), message(2, "c")}) || k.Next != 3 || len(k.Ahead) != 0 {
		t.Error("P33.5:", k, f, e)
	}
	three := api.Inbox{Next: 5, Ahead: []api.Frame{message(7, "h"), message(8, "i"), message(10, "k")}}
	for n, x := range []struct {
		f    api.Frame
		want []api.Frame
		i    api.Inbox
		e    api.Errno
	}{
		{message(4, "x"), nil, three, 0}, {message(7, "other"), nil, three, 0}, {message(6, "g"), nil, api.Inbox{Next: 5, Ahead: []api.Frame{message(6, "g"), message(7, "h"), message(8, "i"), message(10, "k")}}, 0}, {message(5, "f"), []api.Frame{message(5, "f")}, api.Inbox{Next: 6, Ahead: three.Ahead}, 0},
		{summary(5, "s"), nil, three, 0}, {summary(4, "s"), nil, three, 0}, {summary(6, "s"), []api.Frame{summary(6, "s")}, api.Inbox{Next: 6, Ahead: three.Ahead}, 0}, {summary(7, "s"), []api.Frame{summary(7, "s"), message(7, "h"), message(8, "i")}, api.Inbox{Next: 9, Ahead: three.Ahead[2:]}, 0},
		{summary(8, "s"), []api.Frame{summary(8, "s"), message(8, "i")}, api.Inbox{Next: 9, Ahead: three.Ahead[2:]}, 0}, {summary(9, "s"), []api.Frame{summary(9, "s")}, api.Inbox{Next: 9, Ahead: three.Ahead[2:]}, 0}, {summary(11, "s"), []api.Frame{summary(11, "s")}, api.Inbox{Next: 11}, 0}, {message(sent, "z"), nil, api.Inbox{Next: 5, Ahead: append(slices.Clone(three.Ahead), message(sent, "z"))}, 0},
		{message(-1, ""), nil, three, 1}, {message(sent+1, ""), nil, three, 1}, {message(5, long), nil, three, 1}, {summary(math.MaxInt, ""), nil, three, 1}, {summary(sent, long[1:]), []api.Frame{summary(sent, long[1:])}, api.Inbox{Next: sent}, 0},
	} {
		i, f, e := link.Receive(three, x.f)
		if !reflect.DeepEqual(i, x.i) || !slices.Equal(f, x.want) || e != x.e {
			t.Error("P33.5:", n, i, f, e)
		}
		again, f, g := link.Receive(i, x.f)
		if !reflect.DeepEqual(again, i) || len(f) != 0 || g != x.e {
			t.Error("P33.9:", n, again, f)
		}
	}
	full := api.Inbox{}
	for n := range api.MaxAhead {
		full.Ahead = append(full.Ahead, message(2*n+2, ""))
	}
	if i, f, e := link.Receive(full, message(1, "")); !reflect.DeepEqual(i, full) || len(f) != 0 || e != api.OK {
		t.Error("P33.5: too many frames wait:", e)
	}
	if i, f, e := link.Receive(full, message(0, "")); i.Next != 1 || len(f) != 1 || len(i.Ahead) != 64 || e != api.OK {
		t.Error("P33.5: the turn of a frame, with many that wait:", i.Next, e)
	}
	if i, f, e := link.Receive(full, summary(2, "")); i.Next != 3 || len(f) != 2 || len(i.Ahead) != 63 || e != api.OK {
		t.Error("P33.5: a summary, with many that wait:", i.Next, e)
	}
	if r := link.Restart(three); !reflect.DeepEqual(r, api.Inbox{Next: 5}) {
		t.Error("P33.6:", r)
	}
}

// A sender and a receiver over a link that does what it likes.
func TestLink(t *testing.T) {
	for seed := range 200 {
		r := rand.New(rand.NewSource(int64(seed)))
		var o api.Outbox
		var i api.Inbox
		var all []string
		var flying []api.Frame
		told, at := []int{0}, 0 // what the receiver has told; the number that must come next
		hear := func(f api.Frame) {
			var delivered []api.Frame
			var e api.Errno
			if i, delivered, e = link.Receive(i, f); e != api.OK || !link.ValidIn(i) {
				t.Fatal("P33.5:", e)
			}
			for _, d := range delivered {
				switch {
				case d.Sum:
					if d.Seq <= at || d.Body != strings.Join(all[:d.Seq], "") {
						t.Fatal("P33.7: a summary:", seed, d, at)
					}
					at = d.Seq
				case d.Seq != at || d.Body != all[at]:
					t.Fatal("P33.7: a message:", seed, d, at)
				default:
					at++
				}
			}
			if i.Next != at {
				t.Fatal("P33.5: Next:", seed, i.Next, at)
			}
			told = append(told, i.Next)
		}
		for range 300 {
			switch r.Intn(7) {
			case 0, 1:
				body := fmt.Sprint(len(all), ";")
				all = append(all, body)
				o, _ = link.Put(o, body)
			case 2:
				f, _ := link.Frames(o, r.Intn(6))
				flying = append(flying, f...)
			case 3:
				if r.Intn(4) == 0 {
					upto := o.Base + r.Intn(len(o.Queue)+1)
					o, _ = link.Fold(o, upto, strings.Join(all[:upto], ""))
				}
			case 4:
				var e api.Errno
				if o, e = link.Acknowledge(o, told[r.Intn(len(told))]); e != api.OK {
					t.Fatal("P33.4:", seed, e)
				}
			case 5:
				if r.Intn(5) == 0 {
					i = link.Restart(i)
				}
			default:
				for range r.Intn(4) {
					if len(flying) > 0 {
						hear(flying[r.Intn(len(flying))])
					}
				}
			}
			if !link.ValidOut(o) {
				t.Fatal("an outbox is not valid:", seed)
			}
		}
		f, _ := link.Frames(o, 5000)
		for _, x := range f {
			hear(x)
		}
		o, _ = link.Acknowledge(o, i.Next)
		if f, _ := link.Frames(o, 5000); i.Next != len(all) || i.Next != o.Base+len(o.Queue) || len(f) != 0 {
			t.Fatal("P33.8:", seed, i.Next, len(all), len(f))
		}
	}
}
