package topo

import (
	"iter"
	"slices"

	"weirgate/api"
)

const maxSerial = 1 << 40

// sitesOf yields the sites of stages, with the places of these.
func sitesOf(stages [][]int) iter.Seq2[int, int] {
	return func(yield func(int, int) bool) {
		for i, stage := range stages {
			for _, site := range stage {
				if !yield(i, site) {
					return
				}
			}
		}
	}
}

// divide returns the stage of each site; false if the stages do not have all sites of the orders once, and no others.
func divide(orders []api.Order, stages [][]int) (map[int]int, bool) {
	stage := map[int]int{}
	for i, site := range sitesOf(stages) {
		if _, again := stage[site]; again {
			return nil, false
		}
		stage[site] = i
	}
	for _, o := range orders {
		if _, known := stage[o.Site]; !known {
			return nil, false
		}
	}
	return stage, len(stage) == len(orders)
}

// ValidFleet reports whether a fleet is valid.
func ValidFleet(f api.Fleet) bool {
	if f.Base < 0 || f.Base >= api.MaxSoftware || f.Serial < 0 || f.Serial > maxSerial || f.Done < 0 || f.Done > len(f.Stages) {
		return false
	}
	for i, o := range f.Orders {
		if !isSite(o.Site) || i > 0 && o.Site <= f.Orders[i-1].Site {
			return false
		}
		if o.Serial < 0 || o.Serial > f.Serial || o.Heard < 0 || o.Heard > o.Serial {
			return false
		}
	}
	return validVersions(f)
}

func validVersions(f api.Fleet) bool {
	stage, whole := divide(f.Orders, f.Stages)
	if len(f.Stages) > 0 && !whole {
		return false
	}
	for _, o := range f.Orders {
		version := f.Base
		if len(f.Stages) > 0 && stage[o.Site] < f.Done {
			version++
		}
		if o.Version != version {
			return false
		}
	}
	return true
}

// NewFleet returns a fleet without a rollout.
func NewFleet(sites []int, version int) (api.Fleet, api.Errno) {
	f := api.Fleet{Base: version}
	for _, site := range sites {
		f.Orders = append(f.Orders, api.Order{Site: site, Version: version})
	}
	if !ValidFleet(f) {
		return api.Fleet{}, api.ErrArg
	}
	return f, api.OK
}

// Settled reports whether all sites have confirmed their orders.
func Settled(f api.Fleet) bool { return ValidFleet(f) && settled(f) }

func settled(f api.Fleet) bool {
	for _, o := range f.Orders {
		if o.Heard != o.Serial {
			return false
		}
	}
	return true
}

// changed returns a valid fleet after a change of a copy of it, if that gives no error.
func changed(f api.Fleet, change func(f *api.Fleet) api.Errno) (api.Fleet, api.Errno) {
	if !ValidFleet(f) {
		return api.Fleet{}, api.ErrArg
	}
	f.Stages, f.Orders = copyStages(f.Stages), slices.Clone(f.Orders)
	if e := change(&f); e != api.OK {
		return api.Fleet{}, e
	}
	return f, api.OK
}

func copyStages(stages [][]int) [][]int {
	l := slices.Clone(stages)
	for i, stage := range l {
		l[i] = slices.Clone(stage)
	}
	return l
}

// order orders a version of some sites.
func order(f *api.Fleet, sites []int, version int) api.Errno {
	if f.Serial == maxSerial {
		return api.ErrLimit
	}
	f.Serial++
	for i, o := range f.Orders {
		if slices.Contains(sites, o.Site) {
			f.Orders[i].Version, f.Orders[i].Serial = version, f.Serial
		}
	}
	return api.OK
}

// Begin begins a rollout.
func Begin(f api.Fleet, stages [][]int) (api.Fleet, api.Errno) {
	return changed(f, func(f *api.Fleet) api.Errno {
		if len(f.Stages) > 0 || !settled(*f) {
			return api.ErrState
		}
		if _, whole := divide(f.Orders, stages); len(stages) == 0 || !whole {
			return api.ErrArg
		}
		if f.Base == api.MaxSoftware-1 {
			return api.ErrLimit
		}
		f.Stages = copyStages(stages)
		return api.OK
	})
}

// Forward does the next stage.
func Forward(f api.Fleet) (api.Fleet, api.Errno) {
	return changed(f, func(f *api.Fleet) api.Errno {
		if f.Done == len(f.Stages) || f.Stopped || !settled(*f) {
			return api.ErrState
		}
		f.Done++
		return order(f, f.Stages[f.Done-1], f.Base+1)
	})
}

// Retreat takes back the last stage.
func Retreat(f api.Fleet) (api.Fleet, api.Errno) {
	return changed(f, func(f *api.Fleet) api.Errno {
		if f.Done == 0 {
			return api.ErrState
		}
		f.Done--
		return order(f, f.Stages[f.Done], f.Base)
	})
}

// Stop stops a rollout, or lets it go on.
func Stop(f api.Fleet, stopped bool) (api.Fleet, api.Errno) {
	return changed(f, func(f *api.Fleet) api.Errno {
		f.Stopped = stopped
		return api.OK
	})
}

// End ends a rollout.
func End(f api.Fleet) (api.Fleet, api.Errno) {
	return changed(f, func(f *api.Fleet) api.Errno {
		all := f.Done == len(f.Stages)
		if len(f.Stages) == 0 || !settled(*f) || f.Done > 0 && !all {
			return api.ErrState
		}
		if all {
			f.Base++
		}
		f.Stages, f.Done, f.Stopped = nil, 0, false
		return api.OK
	})
}

// placeOf returns the place of the order of a site, or -1.
func placeOf(f api.Fleet, site int) int {
	return slices.IndexFunc(f.Orders, func(o api.Order) bool { return o.Site == site })
}

// OrderOf returns the order of a site.
func OrderOf(f api.Fleet, site int) (api.Node, api.Errno) {
	if !ValidFleet(f) {
		return api.Node{}, api.ErrArg
	}
	i := placeOf(f, site)
	if i < 0 {
		return api.Node{}, api.ErrName
	}
	o := f.Orders[i]
	return api.Node{Site: o.Site, Version: o.Version, Serial: o.Serial}, api.OK
}

// Apply returns what a site becomes that has got an order.
func Apply(n, order api.Node) api.Node {
	if order.Site == n.Site && order.Serial > n.Serial {
		return order
	}
	return n
}

// Confirm takes notice of what a site tells.
func Confirm(f api.Fleet, site, serial int) (api.Fleet, api.Errno) {
	return changed(f, func(f *api.Fleet) api.Errno {
		i := placeOf(*f, site)
		if i < 0 {
			return api.ErrName
		}
		if serial < 0 || serial > f.Orders[i].Serial {
			return api.ErrArg
		}
		f.Orders[i].Heard = max(f.Orders[i].Heard, serial)
		return api.OK
	})
}
