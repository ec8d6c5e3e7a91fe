package engine

import (
	"math/rand"
	"testing"

	"pacioli/api"
)

// A drawer draws requests, most of them such that something comes of them.
type drawer struct {
	*rand.Rand
	x       *twin
	seen    map[int]int // how often each code
	width   uint64      // of the transfers' numbers
	closing int         // one of so many pending ones closes
}

// odd: seldom, what is wrong, or far.
func (d *drawer) odd(n int) bool { return d.Intn(n) == 0 }

func (d *drawer) num() api.Num {
	switch d.Intn(8) {
	case 0:
		return low(0)
	case 1:
		return under(uint64(d.Intn(4)))
	case 2:
		return api.Num{Hi: 1 << d.Intn(64), Lo: d.Uint64()}
	}
	return low(uint64(d.Intn(12)))
}

func (d *drawer) account() api.Account {
	a := fresh(uint64(1+d.Intn(9)), 1+d.Intn(8)/7, []int{0, 0, api.DebitLimit, api.CreditLimit}[d.Intn(4)])
	if d.odd(12) {
		a.ID = low(uint64(d.Intn(60)))
	}
	if d.odd(25) {
		a.Ledger = 0
	}
	if d.odd(25) {
		a.Flags = d.Intn(20) - 2
	}
	if d.odd(4) {
		a.Flags |= api.Linked
	}
	return a
}

func (d *drawer) first() api.Transfer {
	t := moveNum(1+uint64(d.Intn(int(d.width))), uint64(1+d.Intn(9)), uint64(1+d.Intn(9)), d.num(), 0)
	if d.odd(20) {
		t.Debit, t.Credit = low(uint64(d.Intn(12))), low(uint64(d.Intn(12)))
	}
	if a, ok := d.x.m.made(t.Debit); ok && !d.odd(20) {
		t.Ledger = a.Ledger
	}
	if d.odd(2) {
		t.Flags |= api.Pending
		t.Timeout = d.Intn(5)
	}
	if d.odd(3) {
		t.Flags |= []int{api.BalanceDebit, api.BalanceCredit, api.BalanceDebit | api.BalanceCredit}[d.Intn(3)]
	}
	if t.Flags&api.Pending != 0 && d.odd(d.closing) {
		t.Flags |= []int{api.CloseDebit, api.CloseCredit, api.CloseDebit | api.CloseCredit}[d.Intn(3)]
	}
	return t
}

func (d *drawer) second() api.Transfer {
	t := second(1+uint64(d.Intn(int(d.width))), 1+uint64(d.Intn(int(d.width))), uint64(d.Intn(2)*d.Intn(9)), []int{api.Post, api.Void}[d.Intn(2)])
	if n := len(d.x.m.entries); n > 0 && !d.odd(10) {
		p := d.x.m.entries[d.Intn(n)]
		t.PendingID = p.ID
		if d.odd(4) {
			t.Debit, t.Credit, t.Ledger = p.Debit, p.Credit, p.Ledger
		}
		if d.odd(3) {
			t.Amount = numOf(p.amount)
		}
	}
	if d.odd(12) {
		t.Debit = low(uint64(d.Intn(9)))
	}
	return t
}

func (d *drawer) transfer() api.Transfer {
	t := d.first()
	if d.odd(3) {
		t = d.second()
	}
	if n := len(d.x.m.entries); n > 0 && d.odd(8) {
		t = d.x.m.entries[d.Intn(n)].Transfer // once more, or nearly
		switch d.Intn(8) {
		case 0:
			t.Amount = low(3)
		case 1:
			t.Debit = low(3)
		case 2:
			t.Credit = low(3)
		case 3:
			t.Flags ^= api.BalanceDebit
		case 4:
			t.PendingID = low(3)
		case 5:
			t.Timeout = 9
		case 6:
			t.Ledger = 3
		}
	}
	if d.odd(40) {
		t.Flags = d.Intn(300) - 20
	}
	if d.odd(60) {
		t.ID = api.Num{}
	}
	if d.odd(4) {
		t.Flags |= api.Linked
	}
	return t
}

func (d *drawer) request() api.Request {
	switch d.Intn(10) {
	case 0:
		return api.Request{Kind: api.Tick, From: d.x.m.now + d.Intn(4)}
	case 1:
		q := api.Request{Kind: api.MakeAccounts}
		for range d.Intn(5) {
			q.Accounts = append(q.Accounts, d.account())
		}
		return q
	}
	q := api.Request{Kind: api.MakeTransfers}
	for range d.Intn(6) {
		q.Transfers = append(q.Transfers, d.transfer())
	}
	return q
}

func (d *drawer) run(steps int) {
	var l []api.Account
	for id := range uint64(6) {
		l = append(l, fresh(id+1, 1, []int{0, 0, 0, 0, api.DebitLimit, api.CreditLimit}[id]))
	}
	d.x.make(l)
	for range steps {
		if d.odd(60) {
			other := d.x.copy() // what is done to it is nothing to the first one
			other.apply(d.request())
			other.apply(d.request())
			d.x.check()
		}
		got, _ := d.x.apply(d.request())
		for _, r := range got {
			d.seen[r.Code]++
		}
	}
}

// Many requests that are drawn, each looked at from all sides: the model's answers, and the sums of each ledger.
func TestDrawn(t *testing.T) {
	seen := map[int]int{}
	for seed := range int64(60) {
		d := &drawer{rand.New(rand.NewSource(seed)), newTwin(t), seen, 60, 5}
		d.run(60)
	}
	for code := api.LinkFailed; code < api.Table; code++ {
		if code != api.Exists && seen[code] < 5 {
			t.Errorf("code %d was seen %d times", code, seen[code])
		}
	}
	if seen[api.Exists] != 0 {
		t.Error("Exists is of no event")
	}
}

// Till there is no place for more.
func TestDrawnTillFull(t *testing.T) {
	seen := map[int]int{}
	d := &drawer{rand.New(rand.NewSource(99)), newTwin(t), seen, 1000, 100}
	d.run(1000)
	if seen[api.Table] == 0 || len(d.x.m.entries) != 256 {
		t.Error(seen[api.Table], len(d.x.m.entries))
	}
}
