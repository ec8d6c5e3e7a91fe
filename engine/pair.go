package engine

import (
	"pacioli/api"
	"pacioli/rule"
	"pacioli/u128"
)

const balancing = api.BalanceDebit | api.BalanceCredit

// A pair is both accounts of a transfer; what is done to it is done to none that is kept.
type pair struct {
	debit, credit api.Account
}

// amount: how much a transfer that isn't a second step moves, or holds.
func (p *pair) amount(t api.Transfer) api.Num {
	amount := t.Amount
	if t.Flags&balancing != 0 && amount == (api.Num{}) {
		amount = u128.Max()
	}
	if t.Flags&api.BalanceDebit != 0 {
		amount = u128.Least(amount, rule.Room(p.debit, true))
	}
	if t.Flags&api.BalanceCredit != 0 {
		amount = u128.Least(amount, rule.Room(p.credit, false))
	}
	return amount
}

// move: both are as such a transfer leaves them; or its code.
func (p *pair) move(t api.Transfer, amount api.Num) int {
	add := p.post
	if t.Flags&api.Pending != 0 {
		add = p.hold
	}
	switch {
	case !add(amount) || !p.sound():
		return api.Overflow
	case !rule.Within(p.debit):
		return api.OverCredits
	case !rule.Within(p.credit):
		return api.OverDebits
	}
	p.shut(t.Flags)
	return api.Fine
}

// hold: so much more is pending; false: a sum is too great.
func (p *pair) hold(amount api.Num) bool {
	var debits, credits bool
	p.debit.DebitsPending, debits = u128.Add(p.debit.DebitsPending, amount)
	p.credit.CreditsPending, credits = u128.Add(p.credit.CreditsPending, amount)
	return debits && credits
}

// post: so much more is posted; false: a sum is too great.
func (p *pair) post(amount api.Num) bool {
	var debits, credits bool
	p.debit.DebitsPosted, debits = u128.Add(p.debit.DebitsPosted, amount)
	p.credit.CreditsPosted, credits = u128.Add(p.credit.CreditsPosted, amount)
	return debits && credits
}

// sound: are what is pending and what is posted together a number, on both sides?
func (p *pair) sound() bool {
	_, debits := u128.Add(p.debit.DebitsPending, p.debit.DebitsPosted)
	_, credits := u128.Add(p.credit.CreditsPending, p.credit.CreditsPosted)
	return debits && credits
}

// free: what was held isn't pending any more.
func (p *pair) free(held api.Num) {
	p.debit.DebitsPending, _ = u128.Sub(p.debit.DebitsPending, held) // it is part of both sums
	p.credit.CreditsPending, _ = u128.Sub(p.credit.CreditsPending, held)
}

// shut: what a transfer of such flags closes is closed.
func (p *pair) shut(flags int) {
	if flags&api.CloseDebit != 0 {
		p.debit.Flags |= api.Closed
	}
	if flags&api.CloseCredit != 0 {
		p.credit.Flags |= api.Closed
	}
}

// open: what a transfer of such flags closed is open.
func (p *pair) open(flags int) {
	if flags&api.CloseDebit != 0 {
		p.debit.Flags &^= api.Closed
	}
	if flags&api.CloseCredit != 0 {
		p.credit.Flags &^= api.Closed
	}
}
