package engine

import (
	"slices"

	"pacioli/api"
	"pacioli/index"
	"pacioli/rows"
	"pacioli/rule"
	"pacioli/u128"
)

// expiry is the Event of a row of what expired.
const expiry = -1

// An account, as it is kept: how many rows it has, and their root, its rows tell.
type account struct {
	api.Account
	rows *rows.List
}

// told: the account with all that is asked of it.
func (a account) told() api.Account {
	whole := a.Account
	whole.Rows, whole.Root = a.rows.Len(), a.rows.Root(nil)
	return whole
}

// The books are all that an engine keeps.
type books struct {
	accountAt  index.Index // their places, by their numbers
	accounts   []account
	transferAt index.Index
	transfers  []api.Transfer // in the order in which they were made
	time       int            // of what came last
	now        int            // the last tick's
}

// copy: others alike, that share nothing with these.
func (b *books) copy() books {
	c := books{
		accountAt:  *b.accountAt.Copy(),
		accounts:   slices.Clone(b.accounts),
		transferAt: *b.transferAt.Copy(),
		transfers:  slices.Clone(b.transfers),
		time:       b.time,
		now:        b.now,
	}
	for place, a := range c.accounts {
		c.accounts[place].rows = a.rows.Copy()
	}
	return c
}

// makeAccount: one more, or its code.
func (b *books) makeAccount(a api.Account) int {
	if code := rule.Account(a); code != api.Fine {
		return code
	}
	if place, ok := b.accountAt.Get(a.ID); ok {
		return rule.Again(a, b.accounts[place].Account)
	}
	if len(b.accounts) >= api.MaxAccounts {
		return api.Table
	}
	b.time++
	made := api.Account{ID: a.ID, Ledger: a.Ledger, Flags: a.Flags &^ api.Linked, Time: b.time}
	b.accountAt.Put(a.ID, len(b.accounts))
	b.accounts = append(b.accounts, account{Account: made, rows: &rows.List{}})
	return api.Fine
}

// makeTransfer: one more, or its code.
func (b *books) makeTransfer(t api.Transfer) int {
	if code := rule.Transfer(t); code != api.Fine {
		return code
	}
	if place, ok := b.transferAt.Get(t.ID); ok {
		return rule.Repeat(t, b.transfers[place])
	}
	if len(b.transfers) >= api.MaxTransfer {
		return api.Table
	}
	if t.PendingID != (api.Num{}) {
		return b.secondStep(t)
	}
	return b.firstStep(t)
}

// firstStep: a transfer of no pending one is made, or its code.
func (b *books) firstStep(t api.Transfer) int {
	p, code := b.parties(t)
	if code != api.Fine {
		return code
	}
	amount := p.amount(t)
	if code := p.move(t, amount); code != api.Fine {
		return code
	}
	state := api.Posted
	if t.Flags&api.Pending != 0 {
		state = api.Waiting
	}
	b.keep(t, state, p, amount)
	return api.Fine
}

// parties: the accounts of a transfer, or the code of what is wrong with them.
func (b *books) parties(t api.Transfer) (pair, int) {
	debit, ok := b.accountAt.Get(t.Debit)
	if !ok {
		return pair{}, api.NoDebit
	}
	credit, ok := b.accountAt.Get(t.Credit)
	if !ok || credit == debit {
		return pair{}, api.NoCredit
	}
	p := pair{debit: b.accounts[debit].Account, credit: b.accounts[credit].Account}
	switch {
	case p.debit.Ledger != t.Ledger || p.credit.Ledger != t.Ledger:
		return pair{}, api.LedgerBad
	case p.debit.Flags&api.Closed != 0:
		return pair{}, api.DebitClosed
	case p.credit.Flags&api.Closed != 0:
		return pair{}, api.CreditClosed
	}
	return p, api.Fine
}

// secondStep: a transfer that posts or voids a pending one is made, or its code.
func (b *books) secondStep(t api.Transfer) int {
	place, ok := b.transferAt.Get(t.PendingID)
	if !ok {
		return api.NoPending
	}
	first := b.transfers[place]
	if code := wrongWithFirst(t, first); code != api.Fine {
		return code
	}
	held := b.amount(first)
	amount := t.Amount
	if amount == (api.Num{}) {
		amount = held
	}
	void := t.Flags&api.Void != 0
	if order := u128.Compare(amount, held); order > 0 || order < 0 && void {
		return api.TooMuch
	}
	p := b.pairOf(first)
	p.free(held)
	if void {
		p.open(first.Flags)
		b.transfers[place].State = api.Voided
	} else {
		p.post(amount)
		b.transfers[place].State = api.Done
	}
	b.keep(t, api.Posted, p, amount)
	return api.Fine
}

// wrongWithFirst: why a second step can't be that of a transfer that is there; Fine.
func wrongWithFirst(t, first api.Transfer) int {
	switch {
	case first.Flags&api.Pending == 0:
		return api.NotPending
	case first.State == api.Done || first.State == api.Voided:
		return api.DonePending
	case first.State == api.Expired:
		return api.GonePending
	case t.Debit != (api.Num{}) && t.Debit != first.Debit,
		t.Credit != (api.Num{}) && t.Credit != first.Credit,
		t.Ledger != 0 && t.Ledger != first.Ledger:
		return api.OtherParty
	}
	return api.Fine
}

// keep: a transfer is there, and both accounts are as it leaves them.
func (b *books) keep(t api.Transfer, state int, p pair, amount api.Num) {
	b.enter(p, t.ID, t.Flags&^api.Linked, amount)
	t.Time, t.Tick, t.State = b.time, b.now, state
	b.transferAt.Put(t.ID, len(b.transfers))
	b.transfers = append(b.transfers, t)
}

// enter: a time goes by, and both accounts are as they are told, with a row more.
func (b *books) enter(p pair, id api.Num, event int, amount api.Num) {
	b.time++
	for _, a := range []api.Account{p.debit, p.credit} {
		place, _ := b.accountAt.Get(a.ID) // a transfer's accounts are there
		b.accounts[place].Account = a
		b.accounts[place].rows.Add(api.Row{
			Transfer:       id,
			Time:           b.time,
			Event:          event,
			Amount:         amount,
			DebitsPending:  a.DebitsPending,
			DebitsPosted:   a.DebitsPosted,
			CreditsPending: a.CreditsPending,
			CreditsPosted:  a.CreditsPosted,
		})
	}
}

// tick: it is that time, and what has waited as long as it may is expired.
func (b *books) tick(now int) {
	for place, t := range b.transfers {
		if !due(t, now) {
			continue
		}
		held := b.amount(t)
		p := b.pairOf(t)
		p.free(held)
		p.open(t.Flags)
		b.transfers[place].State = api.Expired
		b.enter(p, t.ID, expiry, held)
	}
	b.now = now
}

// due: is the time over of a transfer that waits?
func due(t api.Transfer, now int) bool {
	// Its tick is taken off, not its timeout laid on, for both together may be more than an int.
	return t.State == api.Waiting && t.Timeout > 0 && t.Timeout <= now-t.Tick
}

// origin: the transfer whose accounts one has: of a second step that which was pending.
func (b *books) origin(t api.Transfer) api.Transfer {
	if t.PendingID == (api.Num{}) {
		return t
	}
	place, _ := b.transferAt.Get(t.PendingID) // without it there were no second step
	return b.transfers[place]
}

// pairOf: the accounts of a transfer that is there, as they are now.
func (b *books) pairOf(t api.Transfer) pair {
	debit, _ := b.accountAt.Get(t.Debit) // they are there, as the transfer is
	credit, _ := b.accountAt.Get(t.Credit)
	return pair{debit: b.accounts[debit].Account, credit: b.accounts[credit].Account}
}

// amount: how much a transfer that is there moved, or held: the row of its time tells it.
func (b *books) amount(t api.Transfer) api.Num {
	place, _ := b.accountAt.Get(b.origin(t).Debit)
	list := b.accounts[place].rows
	at, _ := list.Span(t.Time, t.Time, 1)
	return list.At(at).Amount
}
