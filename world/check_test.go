package world_test

import (
	"strings"
	"testing"

	"weirgate/api"
	"weirgate/world"
)

func TestCheck(t *testing.T) {
	long := strings.Repeat("x", 501)
	limit := func(f func(s *api.Scene)) func(s *api.Scene) api.Errno {
		return func(s *api.Scene) api.Errno { f(s); return api.ErrLimit }
	}
	form := func(source string) func(s *api.Scene) api.Errno {
		return func(s *api.Scene) api.Errno { s.Source = source; return api.ErrForm }
	}
	arg := func(f func(s *api.Scene)) func(s *api.Scene) api.Errno {
		return func(s *api.Scene) api.Errno { f(s); return api.ErrArg }
	}
	ok := func(f func(s *api.Scene)) func(s *api.Scene) api.Errno {
		return func(s *api.Scene) api.Errno { f(s); return api.OK }
	}
	kind := func(e api.Event) func(s *api.Scene) api.Errno {
		return arg(func(s *api.Scene) { s.Events = []api.Event{e} })
	}
	good := func(e api.Event) func(s *api.Scene) api.Errno {
		return ok(func(s *api.Scene) { s.Events = []api.Event{e} })
	}
	many := strings.Builder{}
	for i := range 101 {
		many.WriteString("policy p" + strings.Repeat("x", i%30) + "_" + string(rune('a'+i/30)) + " { } ")
	}
	for i, change := range []func(s *api.Scene) api.Errno{
		ok(func(s *api.Scene) {}), ok(func(s *api.Scene) { s.Source = "" }),
		limit(func(s *api.Scene) { s.Sites = 0 }), limit(func(s *api.Scene) { s.Sites, s.Ppm = 5, make([]int, 5) }), limit(func(s *api.Scene) { s.Events = make([]api.Event, 201) }), limit(func(s *api.Scene) { s.Source = strings.Repeat(" ", 20001) }), ok(func(s *api.Scene) { s.Source = strings.Repeat(" ", 20000) }), limit(func(s *api.Scene) { s.Versions = make([]api.Version, 51) }), limit(func(s *api.Scene) { s.Faults = make([]api.Fault, 51) }),
		limit(func(s *api.Scene) { s.Events[0].Headers = make([]api.Header, 21) }), limit(func(s *api.Scene) { s.Events[0].Purges = make([]api.Purge, 21) }), limit(func(s *api.Scene) { s.Events[0].Text = long }), limit(func(s *api.Scene) { s.Events[0].Ask.Addr = long }), limit(func(s *api.Scene) { s.Events[0].Ask.Client = long }), limit(func(s *api.Scene) { s.Events[0].Ask.Country = long }), limit(func(s *api.Scene) { s.Events[0].Headers = []api.Header{{Name: long}} }), limit(func(s *api.Scene) { s.Events[0].Headers = []api.Header{{Value: long}} }), limit(func(s *api.Scene) { s.Events[0].Purges = []api.Purge{{What: long}} }),
		ok(func(s *api.Scene) { s.Events[0].Text = long[:500] }), limit(func(s *api.Scene) { s.Source = "?"; s.Sites = 0 }),
		form("policy"), form("policy acme { rule a { fresh 5; } }"), form("policy acme { } policy acme { }"), form(`policy acme { rule a { pattern "bolt/**"; } }`), form(`policy acme { rule a { vary "A" in "x"; } }`), form(`policy acme { rule a { vary "a" in "x y"; } }`), form("policy my_long { rule a { signed; signed; } }"), form(many.String()), form(`program p { log "a"; } program p { }`),
		func(s *api.Scene) api.Errno { s.Source, s.Error = "?", -1; return api.ErrForm },
		arg(func(s *api.Scene) { s.Versions[1].From = 0 }), arg(func(s *api.Scene) { s.Versions[1].Bytes = strings.Repeat("x", 4001) }), ok(func(s *api.Scene) { s.Versions[1].Bytes = strings.Repeat("x", 4000) }), arg(func(s *api.Scene) { s.Faults = []api.Fault{{Kind: 9}} }), arg(func(s *api.Scene) { s.Faults = []api.Fault{{To: 5, Kind: api.FaSlow, Delay: api.MaxScene + 1}} }), ok(func(s *api.Scene) { s.Faults = []api.Fault{{To: 5, Kind: api.FaSlow, Delay: api.MaxScene}} }),
		arg(func(s *api.Scene) { s.Error = -1 }), arg(func(s *api.Scene) { s.Error = api.MaxError + 1 }), ok(func(s *api.Scene) { s.Error = api.MaxError }), arg(func(s *api.Scene) { s.Drift = -1 }), arg(func(s *api.Scene) { s.Drift = api.MaxDrift + 1 }), arg(func(s *api.Scene) { s.Ppm = nil }), arg(func(s *api.Scene) { s.Ppm = []int{0, 0} }), arg(func(s *api.Scene) { s.Drift, s.Ppm[0] = 5, 6 }), arg(func(s *api.Scene) { s.Drift, s.Ppm[0] = 5, -6 }), ok(func(s *api.Scene) { s.Drift, s.Ppm[0] = 5, -5 }),
		arg(func(s *api.Scene) { s.Map.Hubs = []api.Hub{{Site: 64, Parent: -1}} }), arg(func(s *api.Scene) { s.Cap = -1 }), arg(func(s *api.Scene) { s.Window = 0 }), arg(func(s *api.Scene) { s.Most = 0 }), arg(func(s *api.Scene) { s.Most = api.MaxLease + 1 }),
		arg(func(s *api.Scene) { s.Most, s.Events[1].At = 0, 5 }),
		func(s *api.Scene) api.Errno { s.Events[1].At = 99; return api.ErrTime }, func(s *api.Scene) api.Errno { s.Events[0].At = -1; return api.ErrTime }, func(s *api.Scene) api.Errno { s.Events[1].At = api.MaxScene + 1; return api.ErrTime }, ok(func(s *api.Scene) { s.Events[1].At = api.MaxScene }), func(s *api.Scene) api.Errno { s.Events[0].Kind, s.Events[1].At = 99, 5; return api.ErrTime },
		kind(event(5, 0, 0, 0)), kind(event(5, 16, 0, 0)), kind(event(5, -1, 0, 0)), kind(event(5, api.EvTime, 1, 0)), kind(event(5, api.EvTime, -1, 0)), kind(event(5, api.EvTurn, -1, 0)), kind(event(5, api.EvAsk, -2, 0)), kind(event(5, api.EvAsk, 1, 0)), kind(event(5, api.EvLease, 0, -1)), kind(event(5, api.EvLease, 0, api.MaxScene+1)), kind(api.Event{Kind: api.EvAsk, Token: -1}), kind(api.Event{Kind: api.EvAsk, Carrier: -1}), kind(api.Event{Kind: api.EvAsk, Carrier: api.MaxParty + 1}),
		good(event(5, api.EvAsk, -1, 0)), good(event(5, api.EvPurge, -1, 0)), good(event(5, api.EvMint, -1, 0)), good(event(5, api.EvNarrow, -1, 0)), good(event(5, api.EvDeal, -1, api.MaxScene)), good(event(5, api.EvTurn, 0, 0)), good(api.Event{Kind: api.EvAsk, Carrier: api.MaxParty, Token: 1 << 40}),
	} {
		s := example(ask(100, 0, "acme/a"), ask(200, 0, "acme/b"))
		want := change(&s)
		if e := world.Check(s); e != want {
			t.Error("P48.1:", i, e, "and not", want)
		}
		if st, e := world.Play(s); e != want || e != api.OK && (len(st.Ring) > 0 || len(st.Ledgers) > 0) {
			t.Error("P48.3:", i, e)
		}
	}
}
