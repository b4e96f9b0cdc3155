package world_test

import (
	"slices"
	"testing"

	"weirgate/api"
	"weirgate/bill"
	"weirgate/chain"
	"weirgate/merkle"
	"weirgate/replylog"
	"weirgate/seal"
	"weirgate/world"
)

func judged() api.Scene {
	mint := func(n int, id string, uses int) api.Event {
		return api.Event{At: 5, Kind: api.EvMint, N: n, Text: id, Cond: api.Cond{To: 3000, Uses: uses}}
	}
	with := func(e api.Event, token int) api.Event {
		e.Token = token
		return e
	}
	s := example(
		event(0, api.EvLease, 0, 60000), event(0, api.EvDeal, 0, 9), mint(0, "id", 5), with(event(5, api.EvUses, 0, 5), 1), ask(100, 0, "acme/a"), ask(110, 0, "acme/a"), with(ask(120, 0, "acme/signed/a"), 1), with(ask(130, 0, "acme/signed/a"), 1), purge(200, api.Purge{Kind: api.PuPrefix, What: "acme/signed"}),
	)
	s.Source = `policy acme { rule closed { pattern "acme/signed/**"; fresh 1 s; stale 1 s; signed; } rule all { fresh 1 s; stale 2 s; down 3 s; negative 5 s; } }`
	return s
}

// resealed returns a story whose log is that of changed replies.
func resealed(st api.Story, change func(l []api.Reply)) api.Story {
	l := api.Ledger{Site: 0}
	replies := slices.Clone(st.Ledgers[0].Replies)
	change(replies)
	for _, r := range replies {
		l, _ = replylog.Append(l, r)
	}
	l, _, _ = replylog.Seal(l, st.Ring[3], st.Ledgers[0].Heads[0].At)
	st.Ledgers = []api.Ledger{l}
	st.Bill, _ = bill.Of(l.Replies)
	st.Answers = slices.Clone(st.Answers)
	for i, a := range st.Answers {
		st.Answers[i].Mail.Reply = l.Replies[a.Mail.Reply.Seq]
	}
	return st
}

func TestJudge(t *testing.T) {
	s := judged()
	good := play(t, s)
	if len(good.Answers) != 4 || good.Answers[3].Mail.Reply.Used != 2 {
		t.Fatal("the test is wrong:", shorts(good))
	}
	at := func(i, at int) func(st *api.Story) {
		return func(st *api.Story) { st.Answers[i].At = at }
	}
	replies := func(change func(l []api.Reply)) func(st *api.Story) {
		return func(st *api.Story) { *st = resealed(*st, change) }
	}
	for i, x := range []struct {
		change func(st *api.Story)
		want   int
	}{
		{func(st *api.Story) {}, 0}, {replies(func(l []api.Reply) {}), 0},
		{at(0, 5999), 0}, {at(0, 6000), 1}, {at(0, 6001), 1}, {replies(func(l []api.Reply) { l[0].Stamp.Status = 404 }), 1}, {replies(func(l []api.Reply) { l[0].Stamp.Addr = "acme/b" }), 1}, {replies(func(l []api.Reply) { l[0].Stamp.Body[0]++ }), 1}, {replies(func(l []api.Reply) { l[0].Stamp.Tags = "hot" }), 1},
		{replies(func(l []api.Reply) { l[0].Rule.Allow.Countries = []string{"fr"} }), 2}, {replies(func(l []api.Reply) { l[0].Rule.Allow.To = 100 }), 2}, {replies(func(l []api.Reply) { l[0].Rule.Allow.To = 101 }), 6}, {at(2, 2999), 0}, {at(2, 3000), 2}, {replies(func(l []api.Reply) { l[2].Token.Seal[0]++ }), 2}, {replies(func(l []api.Reply) { l[2].Token.Conds[0].Uses++ }), 2}, {replies(func(l []api.Reply) { l[3].Used = 1 }), 2}, {replies(func(l []api.Reply) { l[3].Used = 0; l[2].Used = 0 }), 6}, {func(st *api.Story) { st.Answers = append(st.Answers, st.Answers[3]) }, 2}, {func(st *api.Story) { st.Answers = append(st.Answers, st.Answers[1]) }, 0},
		{func(st *api.Story) { st.Deadlines = []int{121} }, 3}, {func(st *api.Story) { st.Deadlines = []int{130} }, 3}, {func(st *api.Story) { st.Deadlines = []int{131} }, 0}, {func(st *api.Story) { st.Deadlines = nil }, 0}, {func(st *api.Story) { st.Deadlines = []int{0}; st.Sent = make([]int, 99) }, 3},
		{func(st *api.Story) { st.Sent = []int{0, 1, 2, 3, 4, 5, 6, 7, 8, 999, 1000} }, 0}, {func(st *api.Story) { st.Sent = []int{2000, 0, 1, 2, 3, 4, 5, 6, 7, 8, 999, 500} }, 4},
		{func(st *api.Story) { st.Answers[1].Mail.Reply.Carrier++ }, 5}, {func(st *api.Story) { st.Answers[1].Mail.Reply.Seq = 0 }, 5}, {func(st *api.Story) { st.Answers[1].Mail.Reply.Seq = 4 }, 5}, {func(st *api.Story) { st.Answers[1].Mail.Reply.Seq = -1 }, 5}, {func(st *api.Story) { st.Answers[1].Mail.Reply.Site = 1 }, 5}, {func(st *api.Story) { st.Answers[1].Mail.Reply.Site = -1 }, 5}, {func(st *api.Story) { st.Bill = nil }, 5}, {func(st *api.Story) { st.Bill[0].Bytes++ }, 5}, {func(st *api.Story) { st.Ledgers = nil }, 5}, {func(st *api.Story) { st.Ledgers, st.Bill, st.Answers = nil, nil, nil }, 0}, {func(st *api.Story) { st.Answers[0].Mail.Kind = api.MaNo; st.Answers[0].Mail.Reply = api.Reply{} }, 0},
		{replies(func(l []api.Reply) { l[0].Heard = 1 }), 0}, {replies(func(l []api.Reply) { l[2].Heard = 1 }), 6}, {replies(func(l []api.Reply) { l[0].Lease.Until++ }), 6}, {replies(func(l []api.Reply) { l[0].Rule.Fresh++ }), 6}, {func(st *api.Story) { st.Policies = nil }, 6}, {func(st *api.Story) { st.Ring = slices.Delete(slices.Clone(st.Ring), 1, 2) }, 6}, {func(st *api.Story) { st.Ledgers[0].Heads = nil }, 6}, {func(st *api.Story) {
			st.Ledgers[0].Heads = append(st.Ledgers[0].Heads, st.Ledgers[0].Heads[0])
		}, 0},
		{func(st *api.Story) {
			h := seal.SealHead(st.Ring[3], api.Head{Root: merkle.Root(nil)})
			st.Ledgers[0].Heads = []api.Head{h}
		}, 6},
	} {
		st := play(t, s)
		x.change(&st)
		if n := world.Judge(s, st); n != x.want {
			t.Error("P48.4:", i, n, "and not", x.want)
		}
	}
}

func TestJudgeModes(t *testing.T) {
	s := judged()
	st := play(t, s)
	st.Answers = st.Answers[:1]
	for i, x := range []struct {
		mode, at, want int
	}{{api.PoFresh, 5999, 0}, {api.PoFresh, 6000, 1}, {api.PoStale, 7999, 0}, {api.PoStale, 8000, 1}, {api.PoDown, 8999, 0}, {api.PoDown, 9000, 1}} {
		y := resealed(st, func(l []api.Reply) { l[0].Mode = x.mode })
		y.Answers[0].At = x.at
		if n := world.Judge(s, y); n != x.want {
			t.Error("P48.4: modes:", i, n)
		}
	}
	if len(st.Tokens) != 1 || !chain.Valid(st.Tokens[0]) {
		t.Error("the test is wrong")
	}
}
