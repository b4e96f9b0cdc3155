package account

import (
	"weirgate/api"
	"weirgate/clock"
	"weirgate/epoch"
	"weirgate/seal"
)

// Check checks a report.
func Check(ring []api.Key, e api.Epoch, r api.Report) (int, api.Errno) {
	if r.Epoch != e.Num || r.Name != epoch.Name(e) || !clock.Valid(r.At) {
		return -1, api.ErrArg
	}
	if why := seal.Check(ring, api.Authority, r.Serial, api.TagReport, reportParts(r), r.Seal, r.At); why != api.OK {
		return -1, why
	}
	last := -1
	place, why := -1, api.OK
lines:
	for i, x := range r.Lines {
		conditions := []func() api.Errno{
			func() api.Errno { return form(isSite(x.Site) && x.Site > last) },
			func() api.Errno { return checkLine(ring, r, x) },
		}
		for _, c := range conditions {
			if e := c(); e != api.OK {
				place, why = i, e
				break lines
			}
		}
		last = x.Site
	}
	return place, why
}

// form returns ErrForm if something is not true that must be.
func form(ok bool) api.Errno {
	if !ok {
		return api.ErrForm
	}
	return api.OK
}

// checkLine checks a line of a report, apart from the order of lines.
func checkLine(ring []api.Key, r api.Report, x api.Line) api.Errno {
	switch x.Kind {
	case api.LnConfirmed:
		c := x.Confirm
		right := x.Lease == api.Lease{} && c.Site == x.Site && c.Epoch >= r.Epoch && (c.Epoch > r.Epoch || c.Name == r.Name)
		if !right {
			return api.ErrForm
		}
		return CheckConfirm(ring, c)
	case api.LnExpired, api.LnOpen:
		if x.Confirm != (api.Confirm{}) {
			return api.ErrForm
		}
		if x.Lease == (api.Lease{}) {
			return api.OK
		}
		return checkLease(ring, r, x)
	}
	return api.ErrForm
}

// checkLease checks the lease of a line that is not confirmed.
func checkLease(ring []api.Key, r api.Report, x api.Line) api.Errno {
	if x.Lease.Site != x.Site || x.Lease.Epoch >= r.Epoch {
		return api.ErrForm
	}
	if why := seal.CheckLease(ring, x.Lease); why != api.OK {
		return why
	}
	if ended := x.Lease.Until <= r.At.Lo; ended != (x.Kind == api.LnExpired) {
		return api.ErrTime
	}
	return api.OK
}
