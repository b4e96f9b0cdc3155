package credit

import (
	"cmp"
	"slices"

	"weirgate/api"
	"weirgate/clock"
)

// ValidPurse reports whether a purse is valid.
func ValidPurse(p api.Wallet) bool {
	if !within(p.Len, 1, api.MaxCreditLen) || len(p.Coins) > api.MaxRows {
		return false
	}
	last := -1
	for _, c := range p.Coins {
		if !isWindow(c.Window) || c.Window <= last || !within(c.Got, 0, maxTotal) || !within(c.Spent, 0, c.Got) || !within(c.Back, 0, c.Got-c.Spent) {
			return false
		}
		last = c.Window
	}
	return true
}

// NewPurse returns a purse without coins.
func NewPurse(length int) (api.Wallet, api.Errno) {
	p := api.Wallet{Len: length}
	if !ValidPurse(p) {
		return api.Wallet{}, api.ErrArg
	}
	return p, api.OK
}

// Receive takes notice of credits that were dealt.
func Receive(p api.Wallet, window, total int) (api.Wallet, api.Errno) {
	if !ValidPurse(p) || !isWindow(window) || !within(total, 0, maxTotal) {
		return api.Wallet{}, api.ErrArg
	}
	c := coin(p, window)
	if total > c.Got {
		c.Got = total
	}
	return with(p, c)
}

// Spend spends a credit.
func Spend(p api.Wallet, now api.Period) (api.Wallet, api.Errno) {
	if !ValidPurse(p) || !clock.Valid(now) {
		return api.Wallet{}, api.ErrArg
	}
	window := now.Lo / p.Len
	if window != now.Hi/p.Len {
		return api.Wallet{}, api.ErrTime
	}
	c := coin(p, window)
	if left(c) == 0 {
		return api.Wallet{}, api.ErrState
	}
	c.Spent++
	return with(p, c)
}

// Give gives credits back.
func Give(p api.Wallet, window, n int) (api.Wallet, api.Errno) {
	if !ValidPurse(p) || !isWindow(window) || !within(n, 1, api.MaxCredit) {
		return api.Wallet{}, api.ErrArg
	}
	c := coin(p, window)
	if n > left(c) {
		return api.Wallet{}, api.ErrState
	}
	c.Back += n
	return with(p, c)
}

// Left returns how many credits can be spent.
func Left(p api.Wallet, window int) int {
	if !ValidPurse(p) {
		return 0
	}
	return left(coin(p, window))
}

// Back returns how many credits were given back.
func Back(p api.Wallet, window int) int {
	if !ValidPurse(p) {
		return 0
	}
	return coin(p, window).Back
}

// Drop drops windows that are surely over.
func Drop(p api.Wallet, now api.Period) (api.Wallet, api.Errno) {
	if !ValidPurse(p) || !clock.Valid(now) {
		return api.Wallet{}, api.ErrArg
	}
	p.Coins = without(p.Coins, func(c api.Coin) bool { return isOver(c.Window, p.Len, now) })
	return p, api.OK
}

func left(c api.Coin) int { return c.Got - c.Spent - c.Back }

func place(p api.Wallet, window int) (int, bool) {
	return find(p.Coins, api.Coin{Window: window}, func(a, b api.Coin) int { return cmp.Compare(a.Window, b.Window) })
}

// coin returns the coin of a window, or one without anything.
func coin(p api.Wallet, window int) api.Coin {
	if i, found := place(p, window); found {
		return p.Coins[i]
	}
	return api.Coin{Window: window}
}

// with returns a purse in which a window has another coin; one without anything is not put into it.
func with(p api.Wallet, c api.Coin) (api.Wallet, api.Errno) {
	p.Coins = slices.Clone(p.Coins)
	i, found := place(p, c.Window)
	switch {
	case found:
		p.Coins[i] = c
	case c == api.Coin{Window: c.Window}:
	case len(p.Coins) >= api.MaxRows:
		return api.Wallet{}, api.ErrLimit
	default:
		p.Coins = slices.Insert(p.Coins, i, c)
	}
	return p, api.OK
}
