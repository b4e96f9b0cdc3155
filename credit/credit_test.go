package credit_test

import (
	"math"
	"math/rand"
	"reflect"
	"slices"
	"testing"

	"weirgate/api"
	"weirgate/credit"
)

const total = 1 << 40

func at(lo, hi int) api.Period { return api.Period{Lo: lo, Hi: hi} }

func row(window, gate, dealt, back int) api.Row {
	return api.Row{Window: window, Gate: gate, Dealt: dealt, Back: back}
}

func bank(rows ...api.Row) api.Bank { return api.Bank{Cap: 10, Len: 1000, Rows: rows} }

func purse(coins ...api.Coin) api.Wallet { return api.Wallet{Len: 1000, Coins: coins} }

func coin(window, got, spent, back int) api.Coin {
	return api.Coin{Window: window, Got: got, Spent: spent, Back: back}
}

func TestBanks(t *testing.T) {
	var many []api.Row
	for i := range api.MaxRows + 1 {
		many = append(many, row(i, 1, 0, 0))
	}
	for i, b := range []api.Bank{{Len: 1}, {Cap: api.MaxCredit, Len: api.MaxCreditLen}, bank(row(0, 1, 5, 0), row(0, 2, 9, 4), row(1, 1, 10, 0), row(total, api.MaxParty, total, total)), bank(many[1:]...)} {
		if !credit.ValidBank(b) {
			t.Error("P39.1: a valid bank:", i)
		}
	}
	for i, b := range []api.Bank{
		{}, {Cap: -1, Len: 1}, {Cap: api.MaxCredit + 1, Len: 1}, {Cap: 1, Len: -1}, {Cap: 1, Len: api.MaxCreditLen + 1}, bank(many...), bank(row(-1, 1, 0, 0)), bank(row(total+1, 1, 0, 0)), bank(row(1, 0, 0, 0)), bank(row(1, api.MaxParty+1, 0, 0)), bank(row(1, 1, -1, 0)), bank(row(1, 1, total+1, total)), bank(row(1, 1, 5, -1)), bank(row(1, 1, 5, 6)),
		bank(row(1, 1, 5, 0), row(1, 1, 1, 0)), bank(row(1, 2, 5, 0), row(1, 1, 1, 0)), bank(row(2, 1, 5, 0), row(1, 2, 1, 0)), bank(row(1, 1, 5, 0), row(1, 2, 6, 0)), bank(row(1, 1, 11, 0)), bank(row(1, 1, math.MaxInt, math.MinInt)),
	} {
		a, e1 := credit.Deal(b, 1, 1, 1)
		c, e2 := credit.Returned(b, 1, 1, 0)
		d, e3 := credit.Forget(b, at(1, 2))
		if credit.ValidBank(b) || !reflect.DeepEqual(a, api.Bank{}) || !reflect.DeepEqual(c, a) || !reflect.DeepEqual(d, a) || e1 != 1 || e2 != 1 || e3 != 1 || credit.Dealt(b, 1, 1) != 0 || credit.Out(b, 1) != 0 {
			t.Error("P39.1: a bank that is not valid:", i, e1, e2, e3)
		}
	}
	if b, e := credit.NewBank(10, 1000); e != api.OK || !reflect.DeepEqual(b, bank()) {
		t.Error("P39.1: NewBank:", b, e)
	}
	for i, x := range [][2]int{{-1, 5}, {api.MaxCredit + 1, 5}, {5, 0}, {5, api.MaxCreditLen + 1}} {
		if b, e := credit.NewBank(x[0], x[1]); e != api.ErrArg || !reflect.DeepEqual(b, api.Bank{}) {
			t.Error("P39.1: NewBank:", i, e)
		}
	}
}

func TestExample(t *testing.T) {
	b, _ := credit.NewBank(10, 1000)
	b, e := credit.Deal(b, 3, 1, 6)
	b, f := credit.Deal(b, 3, 2, 4)
	if e != api.OK || f != api.OK || credit.Out(b, 3) != 10 || credit.Dealt(b, 3, 1) != 6 || !slices.Equal(b.Rows, []api.Row{row(3, 1, 6, 0), row(3, 2, 4, 0)}) {
		t.Error("P39.2:", b, e, f)
	}
	if c, e := credit.Deal(b, 3, 2, 1); e != api.ErrLimit || !reflect.DeepEqual(c, api.Bank{}) {
		t.Error("P39.2:", e)
	}
	p, _ := credit.NewPurse(1000)
	p, e = credit.Receive(p, 3, 6)
	if e != api.OK || credit.Left(p, 3) != 6 {
		t.Error("P39.5:", p, e)
	}
	p, e = credit.Spend(p, at(3000, 3010))
	if e != api.OK || !slices.Equal(p.Coins, []api.Coin{coin(3, 6, 1, 0)}) {
		t.Error("P39.6:", p, e)
	}
	if q, e := credit.Spend(p, at(3990, 4000)); e != api.ErrTime || !reflect.DeepEqual(q, api.Wallet{}) {
		t.Error("P39.6:", e)
	}
	p, e = credit.Give(p, 3, 3)
	if e != api.OK || credit.Left(p, 3) != 2 || credit.Back(p, 3) != 3 {
		t.Error("P39.7:", p, e)
	}
	b, e = credit.Returned(b, 3, 1, 3)
	if e != api.OK || credit.Out(b, 3) != 7 {
		t.Error("P39.3:", b, e)
	}
	b, e = credit.Deal(b, 3, 2, 3)
	if e != api.OK || credit.Out(b, 3) != 10 || credit.Dealt(b, 3, 2) != 7 {
		t.Error("P39.3:", b, e)
	}
	old := slices.Clone(b.Rows)
	if c, e := credit.Forget(b, at(3999, 4005)); e != api.OK || !slices.Equal(c.Rows, old) {
		t.Error("P39.4:", c, e)
	}
	if c, e := credit.Forget(b, at(4000, 4005)); e != api.OK || len(c.Rows) != 0 || !slices.Equal(b.Rows, old) {
		t.Error("P39.4:", c, e)
	}
}

func TestDeal(t *testing.T) {
	b := bank(row(3, 2, 6, 1), row(5, 1, total, total-4))
	for i, x := range []struct {
		window, gate, n int
		want            []api.Row
		e               api.Errno
	}{
		{3, 1, 5, []api.Row{row(3, 1, 5, 0), row(3, 2, 6, 1), b.Rows[1]}, 0}, {3, 2, 5, []api.Row{row(3, 2, 11, 1), b.Rows[1]}, 0}, {3, 3, 6, nil, 2}, {4, 9, 10, []api.Row{b.Rows[0], row(4, 9, 10, 0), b.Rows[1]}, 0}, {4, 9, 11, nil, 2}, {5, 1, 1, nil, 2}, {5, 2, 6, []api.Row{b.Rows[0], b.Rows[1], row(5, 2, 6, 0)}, 0}, {0, 1, 1, []api.Row{row(0, 1, 1, 0), b.Rows[0], b.Rows[1]}, 0},
		{3, 1, 0, nil, 1}, {3, 1, -1, nil, 1}, {3, 1, api.MaxCredit + 1, nil, 1}, {-1, 1, 1, nil, 1}, {total + 1, 1, 1, nil, 1}, {3, 0, 1, nil, 1}, {3, api.MaxParty + 1, 1, nil, 1}, {3, 1, math.MaxInt, nil, 1}, {total, api.MaxParty, 1, []api.Row{b.Rows[0], b.Rows[1], row(total, api.MaxParty, 1, 0)}, 0},
	} {
		old := slices.Clone(b.Rows)
		c, e := credit.Deal(b, x.window, x.gate, x.n)
		if e != x.e || !slices.Equal(c.Rows, x.want) || !slices.Equal(b.Rows, old) || e == api.OK && !credit.ValidBank(c) {
			t.Error("P39.2:", i, c, e)
		}
	}
	var many []api.Row
	for i := range api.MaxRows {
		many = append(many, row(i, 1, 1, 0))
	}
	full := bank(many...)
	if _, e := credit.Deal(full, 5, 2, 1); e != api.ErrLimit {
		t.Error("P39.2: too many rows:", e)
	}
	if _, e := credit.Deal(full, 5, 1, 1); e != api.OK {
		t.Error("P39.2: a row that there is:", e)
	}
	for i, x := range []struct {
		window, gate, total int
		back                int
		e                   api.Errno
	}{{3, 2, 4, 4, 0}, {3, 2, 0, 1, 0}, {3, 2, 1, 1, 0}, {3, 2, 6, 6, 0}, {3, 2, 7, 0, 1}, {3, 2, -1, 0, 1}, {3, 1, 0, 1, 0}, {3, 1, 1, 0, 1}, {-1, 2, 0, 0, 1}, {3, 0, 0, 0, 1}, {total + 1, 1, 0, 0, 1}} {
		c, e := credit.Returned(b, x.window, x.gate, x.total)
		if e != x.e || e == api.OK && (c.Rows[0].Back != x.back || len(c.Rows) != 2 || !credit.ValidBank(c)) || e != api.OK && !reflect.DeepEqual(c, api.Bank{}) {
			t.Error("P39.3:", i, c, e)
		}
	}
	if c, e := credit.Forget(b, at(5, 4)); e != api.ErrArg || !reflect.DeepEqual(c, api.Bank{}) {
		t.Error("P39.4: no period:", e)
	}
	if c, e := credit.Forget(b, at(5999, 9000)); e != api.OK || !slices.Equal(c.Rows, b.Rows[1:]) {
		t.Error("P39.4:", c, e)
	}
	if credit.Dealt(b, 3, 1) != 0 || credit.Dealt(b, -1, 1) != 0 || credit.Out(b, 4) != 0 || credit.Out(b, 3) != 5 || credit.Out(b, math.MinInt) != 0 {
		t.Error("P39.1: Dealt, Out")
	}
}

func TestPurses(t *testing.T) {
	var many []api.Coin
	for i := range api.MaxRows + 1 {
		many = append(many, coin(i, 1, 0, 0))
	}
	for i, p := range []api.Wallet{{Len: 1}, {Len: api.MaxCreditLen}, purse(coin(0, 5, 2, 3), coin(total, total, 0, total)), purse(many[1:]...)} {
		if !credit.ValidPurse(p) {
			t.Error("P39.5: a valid purse:", i)
		}
	}
	for i, p := range []api.Wallet{{}, {Len: -1}, {Len: api.MaxCreditLen + 1}, purse(many...), purse(coin(-1, 0, 0, 0)), purse(coin(total+1, 0, 0, 0)), purse(coin(1, -1, 0, 0)), purse(coin(1, total+1, 0, 0)), purse(coin(1, 5, -1, 0)), purse(coin(1, 5, 0, -1)), purse(coin(1, 5, 3, 3)), purse(coin(1, 5, math.MaxInt, math.MaxInt)), purse(coin(1, 1, 0, 0), coin(1, 1, 0, 0)), purse(coin(2, 1, 0, 0), coin(1, 1, 0, 0))} {
		a, e1 := credit.Receive(p, 1, 1)
		b, e2 := credit.Spend(p, at(1, 2))
		c, e3 := credit.Give(p, 1, 1)
		d, e4 := credit.Drop(p, at(1, 2))
		if credit.ValidPurse(p) || !reflect.DeepEqual([]api.Wallet{a, b, c, d}, make([]api.Wallet, 4)) || e1 != 1 || e2 != 1 || e3 != 1 || e4 != 1 || credit.Left(p, 1) != 0 || credit.Back(p, 1) != 0 {
			t.Error("P39.5: a purse that is not valid:", i, e1, e2, e3, e4)
		}
	}
	for _, n := range []int{0, -1, api.MaxCreditLen + 1} {
		if p, e := credit.NewPurse(n); e != api.ErrArg || !reflect.DeepEqual(p, api.Wallet{}) {
			t.Error("P39.5: NewPurse:", n, e)
		}
	}
	p := purse(coin(3, 5, 2, 1), coin(7, 4, 0, 4))
	for i, x := range []struct {
		window, total int
		want          []api.Coin
		e             api.Errno
	}{{3, 9, []api.Coin{coin(3, 9, 2, 1), p.Coins[1]}, 0}, {3, 4, p.Coins, 0}, {3, 0, p.Coins, 0}, {5, 2, []api.Coin{p.Coins[0], coin(5, 2, 0, 0), p.Coins[1]}, 0}, {5, 0, p.Coins, 0}, {3, -1, nil, 1}, {3, total + 1, nil, 1}, {-1, 1, nil, 1}, {total + 1, 1, nil, 1}, {total, total, []api.Coin{p.Coins[0], p.Coins[1], coin(total, total, 0, 0)}, 0}} {
		old := slices.Clone(p.Coins)
		q, e := credit.Receive(p, x.window, x.total)
		if e != x.e || !slices.Equal(q.Coins, x.want) || !slices.Equal(old, p.Coins) {
			t.Error("P39.5: Receive:", i, q, e)
		}
	}
	full := purse(many[:api.MaxRows]...)
	if q, e := credit.Receive(full, 20000, 1); e != api.ErrLimit || !reflect.DeepEqual(q, api.Wallet{}) {
		t.Error("P39.5: too many coins:", e)
	}
	if _, e := credit.Receive(full, 20000, 0); e != api.OK {
		t.Error("P39.5: nothing was dealt:", e)
	}
	if _, e := credit.Receive(full, 7, 2); e != api.OK {
		t.Error("P39.5: a coin that there is:", e)
	}
	for i, x := range []struct {
		now  api.Period
		want []api.Coin
		e    api.Errno
	}{{at(3000, 3999), []api.Coin{coin(3, 5, 3, 1), p.Coins[1]}, 0}, {at(2999, 3000), nil, 9}, {at(3999, 4000), nil, 9}, {at(7000, 7001), nil, 4}, {at(5000, 5001), nil, 4}, {at(3001, 3000), nil, 1}, {at(-1, 3000), nil, 1}, {at(0, api.MaxTime+1), nil, 1}, {at(0, api.MaxTime), nil, 9}} {
		q, e := credit.Spend(p, x.now)
		if e != x.e || !slices.Equal(q.Coins, x.want) {
			t.Error("P39.6:", i, q, e)
		}
	}
	for i, x := range []struct {
		window, n int
		want      []api.Coin
		e         api.Errno
	}{{3, 2, []api.Coin{coin(3, 5, 2, 3), p.Coins[1]}, 0}, {3, 3, nil, 4}, {7, 1, nil, 4}, {5, 1, nil, 4}, {3, 0, nil, 1}, {3, -1, nil, 1}, {3, api.MaxCredit + 1, nil, 1}, {-1, 1, nil, 1}, {total + 1, 9, nil, 1}} {
		q, e := credit.Give(p, x.window, x.n)
		if e != x.e || !slices.Equal(q.Coins, x.want) {
			t.Error("P39.7:", i, q, e)
		}
	}
	if q, e := credit.Drop(p, at(4000, 4001)); e != api.OK || !slices.Equal(q.Coins, p.Coins[1:]) {
		t.Error("P39.7: Drop:", q, e)
	}
	if q, e := credit.Drop(p, at(3999, 9001)); e != api.OK || !slices.Equal(q.Coins, p.Coins) {
		t.Error("P39.7: Drop:", q, e)
	}
	if q, e := credit.Drop(p, at(2, 1)); e != api.ErrArg || !reflect.DeepEqual(q, api.Wallet{}) {
		t.Error("P39.7: Drop:", e)
	}
	if credit.Left(p, 3) != 2 || credit.Left(p, 4) != 0 || credit.Back(p, 7) != 4 || credit.Back(p, -1) != 0 {
		t.Error("P39.5: Left, Back")
	}
}

// A bank and gateways, whose messages are late, or come several times: no window has more requests than its Cap.
func TestBound(t *testing.T) {
	for seed := range 200 {
		r := rand.New(rand.NewSource(int64(seed)))
		const length, cap = 100, 5
		b, _ := credit.NewBank(cap, length)
		purses := make([]api.Wallet, 3)
		for i := range purses {
			purses[i], _ = credit.NewPurse(length)
		}
		type letter struct{ gate, window, total int }
		var dealt, back []letter
		sent := map[int]int{}
		now, refused := 0, 0
		for range 600 {
			now += r.Intn(8)
			i := r.Intn(len(purses))
			p := &purses[i]
			window := now/length + r.Intn(2)
			period := at(max(0, now-r.Intn(6)), now+r.Intn(6))
			switch r.Intn(8) {
			case 0, 1:
				if c, e := credit.Deal(b, window, i+1, 1+r.Intn(3)); e == api.OK {
					b = c
				} else {
					refused++
				}
				dealt = append(dealt, letter{i, window, credit.Dealt(b, window, i+1)})
			case 2:
				if len(dealt) > 0 {
					l := dealt[r.Intn(len(dealt))]
					q, e := credit.Receive(purses[l.gate], l.window, l.total)
					if e != api.OK {
						t.Fatal("P39.5:", e)
					}
					if again, _ := credit.Receive(q, l.window, l.total); !reflect.DeepEqual(again, q) {
						t.Fatal("P39.9: a message that comes again")
					}
					purses[l.gate] = q
				}
			case 3, 4:
				if q, e := credit.Spend(*p, period); e == api.OK {
					*p = q
					sent[now/length]++
				}
			case 5:
				if q, e := credit.Give(*p, window, 1+r.Intn(2)); e == api.OK {
					*p = q
					back = append(back, letter{i, window, credit.Back(*p, window)})
				}
			case 6:
				if len(back) > 0 {
					l := back[r.Intn(len(back))]
					if c, e := credit.Returned(b, l.window, l.gate+1, l.total); e == api.OK {
						if again, _ := credit.Returned(c, l.window, l.gate+1, l.total); !reflect.DeepEqual(again, c) {
							t.Fatal("P39.9: a message that comes again")
						}
						b = c
					}
				}
			default:
				if r.Intn(5) == 0 {
					b, _ = credit.Forget(b, period)
				}
				if r.Intn(5) == 0 {
					*p, _ = credit.Drop(*p, period)
				}
			}
			if !credit.ValidBank(b) || !credit.ValidPurse(*p) {
				t.Fatal("not valid:", seed, b, *p)
			}
		}
		for w, n := range sent {
			if n > cap {
				t.Fatal("P39.8: too many requests:", seed, w, n)
			}
		}
		if refused == 0 || len(sent) == 0 {
			t.Fatal("the test has met nothing:", seed)
		}
	}
}
