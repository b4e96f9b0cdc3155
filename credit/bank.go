// Package credit is layer 39: see shared/doc/39-credit.md.
package credit

import (
	"cmp"
	"slices"

	"weirgate/api"
	"weirgate/clock"
)

// maxTotal is the greatest number of a window, and of credits of one that are dealt to a gateway.
const maxTotal = 1 << 40

// ValidBank reports whether a bank is valid.
func ValidBank(b api.Bank) bool {
	if !within(b.Cap, 0, api.MaxCredit) || !within(b.Len, 1, api.MaxCreditLen) || len(b.Rows) > api.MaxRows {
		return false
	}
	out := 0 // of the window of a row, up to it
	for i := range len(b.Rows) {
		r := b.Rows[i]
		if !isWindow(r.Window) || !isGate(r.Gate) || !within(r.Dealt, 0, maxTotal) || !within(r.Back, 0, r.Dealt) {
			return false
		}
		if i > 0 && compareRows(b.Rows[i-1], r) >= 0 {
			return false
		}
		if i > 0 && b.Rows[i-1].Window < r.Window {
			out = 0
		}
		out += r.Dealt - r.Back
		if out > b.Cap {
			return false
		}
	}
	return true
}

// NewBank returns a bank without rows.
func NewBank(cap, length int) (api.Bank, api.Errno) {
	b := api.Bank{Cap: cap, Len: length}
	if !ValidBank(b) {
		return api.Bank{}, api.ErrArg
	}
	return b, api.OK
}

// Deal deals credits to a gateway.
func Deal(b api.Bank, window, gate, n int) (api.Bank, api.Errno) {
	if !ValidBank(b) || !isWindow(window) || !isGate(gate) || !within(n, 1, api.MaxCredit) {
		return api.Bank{}, api.ErrArg
	}
	i, found := row(b, window, gate)
	if Out(b, window)+n > b.Cap || Dealt(b, window, gate)+n > maxTotal || !found && len(b.Rows) >= api.MaxRows {
		return api.Bank{}, api.ErrLimit
	}
	b.Rows = slices.Clone(b.Rows)
	if !found {
		b.Rows = slices.Insert(b.Rows, i, api.Row{Window: window, Gate: gate})
	}
	b.Rows[i].Dealt += n
	return b, api.OK
}

// Dealt returns how many credits a gateway was dealt.
func Dealt(b api.Bank, window, gate int) int {
	i, found := row(b, window, gate)
	if !ValidBank(b) || !found {
		return 0
	}
	return b.Rows[i].Dealt
}

// Out returns how many credits of a window are with gateways.
func Out(b api.Bank, window int) int {
	if !ValidBank(b) {
		return 0
	}
	out := 0
	for i := range len(b.Rows) {
		if b.Rows[i].Window == window {
			out += b.Rows[i].Dealt - b.Rows[i].Back
		}
	}
	return out
}

// Returned takes credits back.
func Returned(b api.Bank, window, gate, total int) (api.Bank, api.Errno) {
	if !ValidBank(b) || !isWindow(window) || !isGate(gate) || !within(total, 0, Dealt(b, window, gate)) {
		return api.Bank{}, api.ErrArg
	}
	b.Rows = slices.Clone(b.Rows)
	if i, found := row(b, window, gate); found {
		b.Rows[i].Back = max(b.Rows[i].Back, total)
	}
	return b, api.OK
}

// Forget drops windows that are surely over.
func Forget(b api.Bank, now api.Period) (api.Bank, api.Errno) {
	if !ValidBank(b) || !clock.Valid(now) {
		return api.Bank{}, api.ErrArg
	}
	b.Rows = without(b.Rows, func(r api.Row) bool { return isOver(r.Window, b.Len, now) })
	return b, api.OK
}

func within(n, least, greatest int) bool { return least <= n && n <= greatest }

func isWindow(n int) bool { return within(n, 0, maxTotal) }

func isGate(n int) bool { return within(n, 1, api.MaxParty) }

// isOver reports whether a window is surely over.
func isOver(window, length int, now api.Period) bool { return clock.From(now, (window+1)*length) }

func compareRows(a, b api.Row) int {
	return cmp.Or(cmp.Compare(a.Window, b.Window), cmp.Compare(a.Gate, b.Gate))
}

func row(b api.Bank, window, gate int) (int, bool) {
	return find(b.Rows, api.Row{Window: window, Gate: gate}, compareRows)
}

// find returns the place of an element in a list that is in order, or where it has to be.
func find[T any](l []T, x T, compare func(a, b T) int) (int, bool) {
	return slices.BinarySearchFunc(l, x, compare)
}

// without returns a list of its own without the elements of which something is true.
func without[T any](l []T, gone func(T) bool) []T {
	return append([]T(nil), slices.DeleteFunc(slices.Clone(l), gone)...)
}
