package world_test

import (
	"reflect"
	"slices"
	"testing"

	"weirgate/account"
	"weirgate/api"
	"weirgate/bill"
	"weirgate/chain"
	"weirgate/replylog"
	"weirgate/world"
)

func same(t *testing.T, name string, st api.Story, want ...short) {
	t.Helper()
	if got := shorts(st); !slices.Equal(got, want) {
		t.Error(name, got, "and not", want)
	}
}

func purge(at int, purges ...api.Purge) api.Event {
	return api.Event{At: at, Kind: api.EvPurge, Purges: purges}
}

func TestExample(t *testing.T) {
	s := example(
		ask(100, 0, "acme/a"), event(200, api.EvLease, 0, 60000), event(200, api.EvDeal, 0, 5), ask(200, 0, "acme/a"), ask(900, 0, "acme/a"),
		event(6500, api.EvDeal, 0, 5), ask(6500, 0, "acme/a"), purge(6600, api.Purge{Kind: api.PuAddress, What: "acme/a"}), event(6600, api.EvCut, 0, 1), ask(6700, 0, "acme/a"), ask(61000, 0, "acme/a"),
	)
	st := play(t, s)
	same(t, "P48.3:", st, no(100, 1, 0, api.ErrTime), reply(200, 4, 0, "one acme/a "), reply(900, 5, 0, "one acme/a "), reply(6500, 7, 0, "two acme/a "), reply(6700, 10, 0, "two acme/a "), no(61000, 11, 0, api.ErrTime))
	if !slices.Equal(st.Sent, []int{200, 6500}) || !slices.Equal(st.Deadlines, []int{60190}) || len(st.Epochs) != 1 || len(st.Leases) != 1 || st.Leases[0].Until != 60190 || len(st.Confirms) != 0 {
		t.Error("P48.3:", st.Sent, st.Deadlines, st.Leases)
	}
	if st.Grants.Latest != 1 || len(st.Ring) != 4 || len(st.Policies) != 1 || st.Policies[0].Party != 200 || st.Ring[2].Secret != "customer0" || st.Ring[3].Party != 1000 {
		t.Error("P48.3: keys:", st.Ring, st.Grants)
	}
	l := st.Ledgers[0]
	if len(st.Ledgers) != 1 || !replylog.Valid(l) || len(l.Replies) != 4 || len(l.Heads) != 1 || l.Heads[0].Size != 4 || l.Heads[0].At.Lo != 61009 {
		t.Error("P48.3: the ledger:", l.Heads)
	}
	if posts, _ := bill.Of(l.Replies); !slices.Equal(posts, st.Bill) {
		t.Error("P48.3: the bill:", st.Bill)
	}
	if c := world.Content(s, "acme/x", "v"); !reflect.DeepEqual(c, []api.Version{{Status: 200, Bytes: "one acme/x v"}, {From: 5000, Status: 200, Bytes: "two acme/x v"}}) || s.Versions[0].Bytes != "one" {
		t.Error("P48.2:", c)
	}
}

func TestNothing(t *testing.T) {
	st := play(t, example())
	if len(st.Answers)+len(st.Epochs)+len(st.Sent)+len(st.Tokens)+len(st.Bill) != 0 || len(st.Ledgers[0].Heads) != 1 || st.Ledgers[0].Heads[0].At.Hi > 30 {
		t.Error("P48.3: no events:", st)
	}
	bad := example()
	bad.Sites = 0
	if st, e := world.Play(bad); e != api.ErrLimit || !reflect.DeepEqual(st, api.Story{}) {
		t.Error("P48.3: a scene with an error:", e)
	}
}

func TestDelays(t *testing.T) {
	s := example(
		event(0, api.EvDelay, 0, 30), event(0, api.EvLease, 0, 60000), event(0, api.EvDeal, 0, 9), ask(29, 0, "acme/a"), ask(30, 0, "acme/a"), event(40, api.EvDelay, 0, 7),
		ask(66, 0, "acme/b"), ask(67, 0, "acme/a"), ask(68, 0, "acme/b"),
	)
	s.Error = 0
	// The fetch of 30 arrives at 60, and what has come, 7 later.
	same(t, "P48.3: mail takes time:", play(t, s), no(29, 4, 0, api.ErrTime), reply(67, 5, 0, "one acme/a "), reply(67, 8, 0, "one acme/a "), reply(80, 7, 0, "one acme/b "), reply(80, 9, 0, "one acme/b "))
}

func TestFaults(t *testing.T) {
	s := example(
		event(0, api.EvLease, 0, 60000), event(0, api.EvDeal, 0, 9), ask(100, 0, "acme/a"), event(2000, api.EvDeal, 0, 9), ask(2020, 0, "acme/a"), event(2500, api.EvDelay, 0, 0),
		event(4000, api.EvDeal, 0, 9), ask(4900, 0, "acme/a"), event(8000, api.EvDeal, 0, 1), ask(8100, 0, "acme/a"), ask(8100, 0, "acme/b"), ask(9005, 0, "acme/b"),
	)
	s.Faults = []api.Fault{{From: 100, To: 101, Kind: api.FaDown}, {From: 2020, To: 2021, Kind: api.FaSlow, Delay: 100}, {From: 4900, To: 4901, Kind: api.FaTwice, Delay: 20}}
	st := play(t, s)
	same(t, "P48.3: faults:", st, no(100, 3, 0, api.ErrOrigin), reply(2120, 5, 0, "one acme/a "), reply(4900, 8, 0, "one acme/a "), reply(8100, 10, 0, "two acme/a "), no(8100, 11, 0, api.ErrOrigin), no(9005, 12, 0, api.ErrOrigin))
	if at := st.Answers[1].Mail.Reply.Stamp.At; at != (api.Period{Lo: 2010, Hi: 2130}) {
		t.Error("P48.3: the period of a slow answer:", at)
	}
	if !slices.Equal(st.Sent, []int{100, 2020, 4900, 8100}) {
		t.Error("P48.3: requests to the origin:", st.Sent)
	}
}

func TestPrograms(t *testing.T) {
	s := example(event(0, api.EvLease, 0, 60000), event(0, api.EvDeal, 0, 9), ask(10, 0, "acme/deny"), ask(10, 0, "acme/reply"), ask(10, 0, "acme/wrong"), ask(10, 0, "acme/long"), ask(10, 0, "acme/set"), ask(10, 0, "acme/zero/x"))
	s.Source = `
policy acme {
	rule mydeny { pattern "acme/deny"; program mydeny; }
	rule myreply { pattern "acme/reply"; program myreply; }
	rule wrong { pattern "acme/wrong"; program wrong; }
	rule long { pattern "acme/long"; program long; }
	rule myset { pattern "acme/set"; fresh 1 s; program myset; vary "lang" in "de", "en"; }
	rule tagged { tags "hot"; program mydeny; }
	rule all { fresh 1 s; }
}
program mydeny effects deny { deny "no"; }
program myreply effects reply, status, reads { if status == 200 { reply "hello " + header "x"; } }
program wrong effects status { set status = 1 / 0; }
program long { repeat 1000 { repeat 1000 { } } }
program myset effects writes { set header "lang" = "de"; }`
	for i := range s.Events {
		s.Events[i].Headers = []api.Header{{Name: "x", Value: "you"}, {Name: "lang", Value: "en"}}
	}
	st := play(t, s)
	same(t, "P48.3: programs:", st, no(10, 3, -1, api.ErrDenied), short{10, 4, -1, api.MaNo, 0, "hello you"}, no(10, 5, -1, api.ErrZero), no(10, 6, -1, api.ErrFuel), reply(10, 7, 0, "one acme/set lang=de"), reply(10, 8, 0, "one acme/zero/x "))
	if h := st.Answers[4].Mail.Reply.Headers; !slices.Equal(h, []api.Header{{Name: "x", Value: "you"}, {Name: "lang", Value: "de"}}) {
		t.Error("P48.3: headers after the program:", h)
	}
}

func TestRoutes(t *testing.T) {
	s := example(event(0, api.EvLease, 0, 60000), event(0, api.EvLease, 1, 60000), event(0, api.EvDeal, 0, 9), ask(10, -1, "acme/a"), event(20, api.EvTurn, 1, 0), ask(20, -1, "acme/a"), event(30, api.EvTurn, 0, 0), ask(30, -1, "acme/a"), event(40, api.EvTurn, 1, 1), event(40, api.EvTurn, 0, 9), ask(40, -1, "acme/a"))
	s.Sites, s.Ppm = 2, []int{0, 0}
	s.Map = api.Map{Hubs: []api.Hub{{Site: 0, Parent: -1, Up: true}, {Site: 1, Parent: 0, Up: true}, {Site: 7, Parent: 0, Up: true}}, Routes: []api.Route{{Country: "de", Sites: []int{1, 0}}, {Country: "fr", Sites: []int{7}}}}
	french := ask(50, -1, "acme/a")
	french.Ask.Country = "fr"
	nowhere := ask(50, -1, "acme/a")
	nowhere.Ask.Country = "it"
	s.Events = append(s.Events, french, nowhere)
	same(t, "P48.3: routes:", play(t, s), reply(10, 4, 1, "one acme/a "), reply(20, 6, 0, "one acme/a "), no(30, 8, -1, api.ErrName), reply(40, 11, 1, "one acme/a "), no(50, 12, -1, api.ErrName), no(50, 13, -1, api.ErrName))
}

func TestTokens(t *testing.T) {
	mint := func(at, n int, id string, c api.Cond) api.Event {
		return api.Event{At: at, Kind: api.EvMint, N: n, Text: id, Cond: c}
	}
	with := func(e api.Event, token int) api.Event {
		e.Token = token
		return e
	}
	s := example(
		event(0, api.EvLease, 0, 60000), event(0, api.EvDeal, 0, 9), mint(5, 0, "id", api.Cond{To: always, Uses: 2}), mint(5, 1, "id", api.Cond{To: always}), mint(5, 0, "?", api.Cond{To: always}), api.Event{At: 5, Kind: api.EvNarrow, Token: 1, Cond: api.Cond{From: 100, To: always}}, api.Event{At: 5, Kind: api.EvNarrow, Token: 9, Cond: api.Cond{To: always}},
		with(ask(10, 0, "acme/a"), 1), with(event(20, api.EvUses, 0, 2), 2), with(ask(30, 0, "acme/a"), 2), with(ask(40, 0, "acme/a"), 1), with(ask(200, 0, "acme/a"), 2), with(ask(210, 0, "acme/a"), 1), with(event(220, api.EvUses, 0, 2), 1), with(ask(230, 0, "acme/a"), 1), with(ask(240, 0, "acme/a"), 0), with(ask(250, 0, "acme/a"), 3),
		with(purge(300), 2), event(300, api.EvTell, 0, 0), mint(300, 0, "id", api.Cond{To: always, Uses: 9}), with(event(310, api.EvUses, 0, 2), 3), with(ask(310, 0, "acme/a"), 3),
	)
	s.Source = `policy acme { rule all { fresh 1 s; signed; } }`
	st := play(t, s)
	same(t, "P48.3: tokens:", st, no(10, 8, 0, api.ErrState), no(30, 10, 0, api.ErrDenied), reply(40, 11, 0, "one acme/a "), reply(200, 12, 0, "one acme/a "), no(210, 13, 0, api.ErrState), no(230, 15, 0, api.ErrState), no(240, 16, 0, api.ErrForm), no(250, 17, 0, api.ErrForm), no(310, 22, 0, api.ErrDenied))
	if len(st.Tokens) != 3 || len(st.Tokens[1].Conds) != 2 || len(st.Epochs) != 1 || !slices.Equal(st.Epochs[0].Revoked, []api.Digest{chain.Identity(st.Tokens[0])}) {
		t.Error("P48.3: tokens:", st.Tokens)
	}
	if st.Answers[2].Mail.Reply.Used != 1 || st.Answers[3].Mail.Reply.Used != 2 {
		t.Error("P48.3: uses")
	}
}

func TestEpochsAndLeases(t *testing.T) {
	tag := api.Purge{Kind: api.PuAddress, What: "acme/a"}
	s := example(
		event(0, api.EvLease, 0, 1000), event(0, api.EvLease, 0, 60001), event(0, api.EvDeal, 0, 9), ask(10, 0, "acme/a"), purge(100, api.Purge{Kind: 9}), purge(100, tag), event(200, api.EvLease, 0, 9000), ask(200, 0, "acme/a"),
		event(300, api.EvTell, 0, 0), event(310, api.EvLease, 0, 9000), ask(320, 0, "acme/a"), event(400, api.EvCut, 0, 1), purge(400, tag), event(400, api.EvTell, 0, 0), event(500, api.EvCut, 0, 0), event(600, api.EvLease, 0, 9000), event(700, api.EvTell, 0, 0), event(700, api.EvTime, 0, 0), event(700, api.EvSeal, 0, 0),
	)
	st := play(t, s)
	same(t, "P48.3: epochs:", st, reply(10, 4, 0, "one acme/a "), reply(200, 8, 0, "one acme/a "), reply(320, 11, 0, "one acme/a "))
	if len(st.Leases) != 2 || len(st.Epochs) != 2 || len(st.Confirms) != 2 || !slices.Equal(st.Deadlines, []int{1000, 9300}) || !slices.Equal(st.Sent, []int{10, 320}) || st.Leases[1].Epoch != 1 {
		t.Error("P48.3: epochs:", st.Leases, st.Confirms, st.Deadlines, st.Sent)
	}
	if heads := st.Ledgers[0].Heads; len(heads) != 2 || heads[0].At.Lo != 699 || heads[1].At.Lo != 708 {
		t.Error("P48.3: EvSeal:", heads)
	}
	checkReports(t, st)
}

func TestRestarts(t *testing.T) {
	s := example(
		event(0, api.EvLease, 0, 60000), event(0, api.EvDeal, 0, 9), ask(10, 0, "acme/a"), purge(100), event(100, api.EvTell, 0, 0), event(200, api.EvRestart, 0, 3), ask(210, 0, "acme/a"), event(300, api.EvLease, 0, 60000), ask(310, 0, "acme/a"), event(400, api.EvArm, 0, 0), ask(410, 0, "acme/b"), ask(420, 0, "acme/a"), event(430, api.EvTime, 0, 0),
	)
	st := play(t, s)
	same(t, "P48.3: restarts:", st, reply(10, 3, 0, "one acme/a "), no(210, 7, 0, api.ErrTime), reply(310, 9, 0, "one acme/a "), no(410, 11, 0, api.ErrDead), no(420, 12, 0, api.ErrDead))
	if len(st.Sent) != 2 || len(st.Ledgers[0].Heads) != 1 || len(st.Confirms) != 2 {
		t.Error("P48.3: restarts:", st.Sent, st.Ledgers[0].Heads)
	}
}

// checkReports checks what the authority can report of each epoch from its deadline on.
func checkReports(t *testing.T, st api.Story) {
	t.Helper()
	for i, e := range st.Epochs {
		now := api.Period{Lo: st.Deadlines[i], Hi: st.Deadlines[i] + 5}
		r, why := account.Make(st.Ring[0], st.Grants, e, st.Confirms, st.Leases, now)
		if why != api.OK || !account.Closed(r) {
			t.Fatal("P48.6:", i, why, r)
		}
		if place, why := account.Check(st.Ring, e, r); place != -1 || why != api.OK {
			t.Fatal("P48.6:", i, place, why)
		}
	}
}
