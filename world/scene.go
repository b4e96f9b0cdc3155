// Package world is layer 48: see shared/doc/48-world.md.
package world

import (
	"weirgate/api"
	"weirgate/compile"
	"weirgate/credit"
	"weirgate/lease"
	"weirgate/origin"
	"weirgate/parser"
	"weirgate/policy"
	"weirgate/topo"
	"weirgate/typing"
	"weirgate/variant"
)

// Limits of scenes.
const (
	maxSource   = 20000
	maxTimeline = 50 // versions, and faults
	maxList     = 20 // headers, and purges
	maxText     = 500
	maxBody     = 4000
	maxPolicies = 100
)

// firstCustomer is the party of the customer of the first policy.
const firstCustomer = 200

// Check checks a scene.
func Check(s api.Scene) api.Errno {
	if !withinLimits(s) {
		return api.ErrLimit
	}
	if _, ok := sourceOf(s); !ok {
		return api.ErrForm
	}
	if !rightOrigin(s) || !rightTimes(s) {
		return api.ErrArg
	}
	if !inOrder(s.Events) {
		return api.ErrTime
	}
	for _, e := range s.Events {
		if !rightEvent(s, e) {
			return api.ErrArg
		}
	}
	return api.OK
}

func withinLimits(s api.Scene) bool {
	if s.Sites < 1 || s.Sites > api.MaxWorld || len(s.Events) > api.MaxScript || len(s.Source) > maxSource || len(s.Versions) > maxTimeline || len(s.Faults) > maxTimeline {
		return false
	}
	for _, e := range s.Events {
		if len(e.Headers) > maxList || len(e.Purges) > maxList || !short(e) {
			return false
		}
	}
	return true
}

// short reports whether the texts of an event are short.
func short(e api.Event) bool {
	texts := []string{e.Text, e.Ask.Addr, e.Ask.Client, e.Ask.Country}
	for _, h := range e.Headers {
		texts = append(texts, h.Name, h.Value)
	}
	for _, p := range e.Purges {
		texts = append(texts, p.What)
	}
	for _, t := range texts {
		if len(t) > maxText {
			return false
		}
	}
	return true
}

// source is what the source of a scene says: the policies, and the programs with their code.
type source struct {
	policies []api.Policy
	programs map[string]api.Program
	code     map[string]api.Module
}

// sourceOf reads the source of a scene; false if it is not right.
func sourceOf(s api.Scene) (source, bool) {
	tree, problem := parser.Parse(s.Source)
	if problem.E != api.OK {
		return source{}, false
	}
	typed, problem := typing.Check(tree)
	if problem.E != api.OK || len(typed.Policies) > maxPolicies {
		return source{}, false
	}
	x := source{policies: typed.Policies, programs: map[string]api.Program{}, code: map[string]api.Module{}}
	for i := range x.policies {
		x.policies[i].Party = firstCustomer + i
	}
	if !rightPolicies(x.policies) {
		return source{}, false
	}
	for _, p := range typed.Programs {
		m, e := compile.Compile(p)
		if e != api.OK {
			return source{}, false
		}
		x.programs[p.Name], x.code[p.Name] = p, m
	}
	return x, true
}

func rightPolicies(l []api.Policy) bool {
	before := map[string]bool{}
	for _, p := range l {
		if policy.Check(p) != api.OK || before[p.Customer] {
			return false
		}
		before[p.Customer] = true
		for _, r := range p.Rules {
			if variant.Check(r.Vary) != api.OK {
				return false
			}
		}
	}
	return true
}

func rightOrigin(s api.Scene) bool {
	if !origin.Valid(s.Versions) || !origin.Faulty(s.Faults) {
		return false
	}
	for _, v := range s.Versions {
		if len(v.Bytes) > maxBody {
			return false
		}
	}
	for _, f := range s.Faults {
		if f.Delay > api.MaxScene {
			return false
		}
	}
	return true
}

func rightTimes(s api.Scene) bool {
	if s.Error < 0 || s.Error > api.MaxError || s.Drift < 0 || s.Drift > api.MaxDrift || len(s.Ppm) != s.Sites {
		return false
	}
	for _, ppm := range s.Ppm {
		if ppm < -s.Drift || ppm > s.Drift {
			return false
		}
	}
	if !topo.ValidMap(s.Map) {
		return false
	}
	_, e := credit.NewBank(s.Cap, s.Window)
	_, f := lease.New(s.Most)
	return e == api.OK && f == api.OK
}

func inOrder(l []api.Event) bool {
	before := 0
	for _, e := range l {
		if e.At < before || e.At > api.MaxScene {
			return false
		}
		before = e.At
	}
	return true
}

func rightEvent(s api.Scene, e api.Event) bool {
	first := 0
	switch e.Kind {
	case api.EvAsk, api.EvPurge, api.EvMint, api.EvNarrow, api.EvDeal:
		first = -1
	}
	return e.Kind >= api.EvAsk && e.Kind <= api.EvTurn && e.Site >= first && e.Site < s.Sites && e.Token >= 0 &&
		e.Carrier >= 0 && e.Carrier <= api.MaxParty && e.N >= 0 && e.N <= api.MaxScene
}

// Content returns what the origin has for an object.
func Content(s api.Scene, addr, variant string) []api.Version {
	var l []api.Version
	for _, v := range s.Versions {
		v.Bytes += " " + addr + " " + variant
		l = append(l, v)
	}
	return l
}
