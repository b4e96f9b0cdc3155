package world_test

import (
	"math/rand"
	"reflect"
	"testing"

	"weirgate/api"
	"weirgate/replylog"
	"weirgate/world"
)

const source = `
policy acme {
	rule counted { pattern "acme/counted/**"; fresh 800 ms; signed; negative 50 ms; }
	rule hot { pattern "acme/*"; tags "hot"; fresh 200 ms; stale 2 s; vary "lang" in "de", "en" default "en"; }
	rule edge { pattern "acme/edge/*"; fresh 1 s; down 9 s; program greet; vary "lang" in "de", "en"; }
	rule limited { pattern "acme/limited"; fresh 5 s; allow { countries "de"; to 20 s; sites 0, 1; } }
	rule all { fresh 400 ms; stale 300 ms; down 5 s; negative 100 ms; }
}
policy bolt { rule all { fresh 3 s; } rule other { pattern "bolt/x"; } }
program greet effects reads, writes, deny, reply {
	if header "lang" == "xx" { deny "no"; }
	if header "lang" == "hi" { reply "hello"; }
	set header "lang" = header "lang" + "";
}`

func randomScene(r *rand.Rand) api.Scene {
	s := api.Scene{Sites: 1 + r.Intn(4), Source: source, Error: r.Intn(60) * r.Intn(2), Drift: r.Intn(100000) * r.Intn(2), Cap: 1 + r.Intn(6), Window: 200 + r.Intn(2000), Most: 5000 + r.Intn(60000)}
	for n := range s.Sites {
		s.Ppm = append(s.Ppm, r.Intn(2*s.Drift+1)-s.Drift)
		s.Map.Hubs = append(s.Map.Hubs, api.Hub{Site: n, Parent: n - 1, Up: r.Intn(4) > 0})
	}
	s.Map.Routes = []api.Route{{Sites: r.Perm(s.Sites)}, {Country: "fr", Sites: r.Perm(s.Sites)[:1]}}
	from := 0
	for range r.Intn(8) {
		s.Versions = append(s.Versions, api.Version{From: from, Status: []int{200, 200, 200, 404}[r.Intn(4)], Bytes: []string{"a", "b", "", "longer"}[r.Intn(4)], Tags: []string{"", "hot", "hot,news"}[r.Intn(3)]})
		from += 1 + r.Intn(6000)
	}
	for range r.Intn(4) {
		from := r.Intn(20000)
		s.Faults = append(s.Faults, api.Fault{From: from, To: from + r.Intn(5000), Kind: 1 + r.Intn(3), Delay: r.Intn(800)})
	}
	for n := range s.Sites {
		s.Events = append(s.Events, event(0, api.EvLease, n, s.Most), event(0, api.EvDelay, n, r.Intn(40)*r.Intn(2)))
	}
	s.Events = append(s.Events, api.Event{Kind: api.EvMint, Text: "x", Cond: api.Cond{To: always, Uses: 9}}, api.Event{Kind: api.EvNarrow, Token: 1, Cond: api.Cond{To: 5000, Uses: 4}})
	at := 0
	for range 50 + r.Intn(140) {
		at += r.Intn(200) * r.Intn(2)
		s.Events = append(s.Events, randomEvent(r, s, at))
	}
	return s
}

func randomEvent(r *rand.Rand, s api.Scene, at int) api.Event {
	e := api.Event{At: at, Kind: api.EvAsk, Site: r.Intn(s.Sites), Token: r.Intn(5) * r.Intn(2)}
	switch r.Intn(20) {
	case 0, 1:
		e.Kind, e.N = api.EvLease, 1+r.Intn(s.Most)
	case 2, 3, 4:
		e.Kind, e.N = api.EvDeal, 1+r.Intn(s.Cap)
	case 5:
		e.Kind = api.EvTime
	case 6:
		e.Kind = api.EvPurge
		e.Purges = []api.Purge{{Kind: 1 + r.Intn(3), What: []string{"acme/a", "acme", "acme:hot", "bolt"}[r.Intn(4)], Soft: r.Intn(2) == 0}}
		e.Token *= r.Intn(2)
	case 7, 8:
		e.Kind = api.EvTell
	case 9:
		e.Kind, e.N = []int{api.EvCut, api.EvTurn}[r.Intn(2)], r.Intn(2)
	case 10:
		e.Kind, e.N = []int{api.EvRestart, api.EvArm, api.EvDelay, api.EvSeal}[r.Intn(4)], r.Intn(60)
	case 11:
		e.Kind, e.N, e.Text, e.Cond = api.EvMint, r.Intn(2), []string{"x", "y"}[r.Intn(2)], api.Cond{To: always, Uses: r.Intn(3) * 3}
	case 12:
		e.Kind, e.Cond = api.EvNarrow, api.Cond{From: r.Intn(9000), To: 9000 + r.Intn(9000), Uses: r.Intn(4)}
	case 13:
		e.Kind, e.N, e.Token = api.EvUses, 1+r.Intn(3), 1+r.Intn(3)
	default:
		e.Site -= r.Intn(2) * (e.Site + 1)
		e.Ask = api.Ask{Addr: []string{"acme/a", "acme/counted/x", "acme/edge/x", "acme/limited", "acme", "bolt/x", "acme/b/c"}[r.Intn(7)], Client: "c", Country: []string{"de", "fr", "it"}[r.Intn(3)]}
		if e.Ask.Addr == "acme/counted/x" {
			e.Token = 1 + r.Intn(4)
		}
		e.Headers = []api.Header{{Name: "lang", Value: []string{"de", "en", "xx", "hi", ""}[r.Intn(5)]}}
		e.Span, e.Carrier = api.Span{From: r.Intn(4) * r.Intn(2), To: r.Intn(9) * r.Intn(2)}, r.Intn(3)
	}
	return e
}

func TestTheorem(t *testing.T) {
	r := rand.New(rand.NewSource(48))
	kinds, errors, modes, used, confirms, restarted := map[int]int{}, map[api.Errno]int{}, map[int]int{}, 0, 0, 0
	for i := range 400 {
		s := randomScene(r)
		st, e := world.Play(s)
		if e != api.OK {
			t.Fatal("P48.1:", i, e)
		}
		if n := world.Judge(s, st); n != 0 {
			t.Fatal("P48.5:", i, n)
		}
		checkReports(t, st)
		for _, a := range st.Answers {
			kinds[a.Mail.Kind]++
			errors[a.Mail.E]++
			if a.Mail.Kind == api.MaReply {
				modes[a.Mail.Reply.Mode]++
				if a.Mail.Reply.Used > 0 {
					used++
				}
			}
		}
		confirms += len(st.Confirms)
		for _, l := range st.Ledgers {
			if !replylog.Valid(l) {
				t.Fatal("P48.3: a ledger:", i)
			}
			restarted += len(l.Heads)
		}
		if i%10 == 0 {
			checkAgain(t, r, s, st)
		}
	}
	t.Log(kinds, errors, modes, used, confirms, restarted)
	for _, e := range []api.Errno{api.OK, api.ErrTime, api.ErrName, api.ErrDenied, api.ErrOrigin, api.ErrRange, api.ErrDead, api.ErrForm, api.ErrState} {
		if errors[e] < 10 {
			t.Error("few answers:", e, errors)
		}
	}
	if kinds[api.MaReply] < 1000 || modes[0] < 500 || modes[1] < 50 || modes[2] < 20 || used < 20 || confirms < 100 {
		t.Error("few replies:", kinds, modes, used, confirms)
	}
}

// checkAgain plays a scene once more, and its beginning.
func checkAgain(t *testing.T, r *rand.Rand, s api.Scene, st api.Story) {
	t.Helper()
	again, _ := world.Play(s)
	if !reflect.DeepEqual(again, st) {
		t.Fatal("P48.7: not the same story")
	}
	n := r.Intn(len(s.Events))
	last := s.Events[n].At
	s.Events = s.Events[:n]
	part, _ := world.Play(s)
	for i, a := range part.Answers {
		if a.At < last && (i >= len(st.Answers) || !reflect.DeepEqual(a, st.Answers[i])) {
			t.Fatal("P48.7: a beginning:", i)
		}
	}
}
