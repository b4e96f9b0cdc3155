package world_test

import (
	"testing"

	"weirgate/api"
	"weirgate/world"
)

const always = api.MaxTime + 1

// example is the scene of the examples, with some events.
func example(events ...api.Event) api.Scene {
	return api.Scene{
		Sites: 1, Source: `policy acme { rule all { fresh 1 s; } }`, Versions: []api.Version{{From: 0, Status: 200, Bytes: "one"}, {From: 5000, Status: 200, Bytes: "two"}},
		Error: 10, Ppm: []int{0}, Cap: 10, Window: 1000, Most: 60000, Events: events,
	}
}

func ask(at, site int, addr string) api.Event {
	return api.Event{At: at, Kind: api.EvAsk, Site: site, Ask: api.Ask{Addr: addr, Client: "c", Country: "de"}}
}

func event(at, kind, site, n int) api.Event {
	return api.Event{At: at, Kind: kind, Site: site, N: n}
}

func play(t *testing.T, s api.Scene) api.Story {
	t.Helper()
	st, e := world.Play(s)
	if e != api.OK {
		t.Fatal("P48.3:", e, world.Check(s))
	}
	if n := world.Judge(s, st); n != 0 {
		t.Fatal("P48.5:", n)
	}
	return st
}

// short is an answer, as far as tests look at it.
type short struct {
	at, event, site, kind int
	e                     api.Errno
	bytes                 string
}

func shorts(st api.Story) []short {
	var l []short
	for _, a := range st.Answers {
		l = append(l, short{a.At, a.Event, a.Site, a.Mail.Kind, a.Mail.E, a.Mail.Bytes})
	}
	return l
}

func reply(at, num, site int, bytes string) short {
	return short{at, num, site, api.MaReply, 0, bytes}
}

func no(at, num, site int, e api.Errno) short { return short{at, num, site, api.MaNo, e, ""} }
