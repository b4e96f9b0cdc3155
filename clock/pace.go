package clock

import (
	"iter"

	"weirgate/api"
)

// Honest reports whether paces are within a drift.
func Honest(l []api.Pace, drift int) bool {
	if !right(l) {
		return false
	}
	for _, p := range l {
		if max(p.Ppm, -p.Ppm) > drift {
			return false
		}
	}
	return true
}

// Show returns what a true clock shows.
func Show(base int, l []api.Pace, t int) (int, api.Errno) {
	if base < 0 || base > api.MaxTime || t < 0 || t > api.MaxTime || !right(l) {
		return 0, api.ErrArg
	}
	parts := base * million // of a millisecond
	for length, ppm := range until(l, t) {
		parts += length * (million + ppm)
	}
	if local := parts / million; local <= maxReading {
		return local, api.OK
	}
	return 0, api.ErrLimit
}

// until yields, for how long a true clock runs at which rate, up to an instant.
func until(l []api.Pace, t int) iter.Seq2[int, int] {
	return func(yield func(int, int) bool) {
		for _, p := range l {
			length := min(p.Len, t)
			if !yield(length, p.Ppm) {
				return
			}
			t -= length
		}
		yield(t, 0)
	}
}

// right reports whether paces are right.
func right(l []api.Pace) bool {
	for _, p := range l {
		if p.Len < 0 || p.Len > api.MaxTime || p.Ppm < -api.MaxDrift || p.Ppm > api.MaxDrift {
			return false
		}
	}
	return len(l) <= api.MaxPaces
}
