package engine

import (
	"math"
	"slices"
	"testing"

	"pacioli/api"
	"pacioli/rows"
	"pacioli/sha"
)

// Every test here is one of P11.1, and, as a twin asks for the sums behind each request, of P11.2; that none of these calls panics or goes on for ever is P0.

// what of an event that isn't done.
func what(at, code int) api.Result { return api.Result{At: at, Code: code} }

// make: accounts, and just these results.
func (x *twin) make(l []api.Account, want ...api.Result) {
	x.t.Helper()
	got, err := x.apply(api.Request{Kind: api.MakeAccounts, Accounts: l})
	if err != api.OK || !slices.Equal(got, want) {
		x.t.Fatalf("%v, %v; want %v", got, err, want)
	}
}

// do: transfers, and just these results.
func (x *twin) do(l []api.Transfer, want ...api.Result) {
	x.t.Helper()
	got, err := x.apply(api.Request{Kind: api.MakeTransfers, Transfers: l})
	if err != api.OK || !slices.Equal(got, want) {
		x.t.Fatalf("%v, %v; want %v", got, err, want)
	}
}

// one: one transfer, and its code.
func (x *twin) one(want int, t api.Transfer) {
	x.t.Helper()
	if want == api.Fine {
		x.do([]api.Transfer{t})
	} else {
		x.do([]api.Transfer{t}, what(0, want))
	}
}

func (x *twin) tick(now int) {
	x.t.Helper()
	if got, err := x.apply(api.Request{Kind: api.Tick, From: now}); got != nil || err != api.OK {
		x.t.Fatal(now, got, err)
	}
}

// bad: a request that answers ErrBad, and changes nothing.
func (x *twin) bad(q api.Request) {
	x.t.Helper()
	if got, err := x.apply(q); got != nil || err != api.ErrBad {
		x.t.Fatal(q, got, err)
	}
}

// sums: an account's four.
func (x *twin) sums(id uint64, debitsPending, debitsPosted, creditsPending, creditsPosted api.Num) {
	x.t.Helper()
	a, ok := x.e.Account(low(id))
	want := []api.Num{debitsPending, debitsPosted, creditsPending, creditsPosted}
	if got := []api.Num{a.DebitsPending, a.DebitsPosted, a.CreditsPending, a.CreditsPosted}; !ok || !slices.Equal(got, want) {
		x.t.Fatalf("sums of %d: %v, want %v", id, got, want)
	}
}

func (x *twin) amount(id uint64, want api.Num) {
	x.t.Helper()
	if got := x.e.Amount(low(id)); got != want {
		x.t.Fatalf("Amount(%d): %v, want %v", id, got, want)
	}
}

func (x *twin) state(id uint64, want int) {
	x.t.Helper()
	if got, ok := x.e.Transfer(low(id)); !ok || got.State != want {
		x.t.Fatalf("State of %d: %d, %v; want %d", id, got.State, ok, want)
	}
}

func (x *twin) closed(id uint64, want bool) {
	x.t.Helper()
	if a, ok := x.e.Account(low(id)); !ok || has(a.Flags, api.Closed) != want {
		x.t.Fatalf("account %d: flags %d, %v; want closed %v", id, a.Flags, ok, want)
	}
}

// row: the last one of an account.
func (x *twin) row(id uint64, want api.Row) {
	x.t.Helper()
	l := x.e.Rows(low(id))
	if l == nil || l.Len() == 0 || l.At(l.Len()-1) != want {
		x.t.Fatalf("last row of %d: %+v, want %+v", id, l, want)
	}
}

// move: a transfer of ledger 1.
func move(id, debit, credit, amount uint64, flags int) api.Transfer {
	return api.Transfer{ID: low(id), Debit: low(debit), Credit: low(credit), Amount: low(amount), Ledger: 1, Flags: flags}
}

// moveNum: likewise, of any amount.
func moveNum(id, debit, credit uint64, amount api.Num, flags int) api.Transfer {
	t := move(id, debit, credit, 0, flags)
	t.Amount = amount
	return t
}

// hold: a pending one.
func hold(id, debit, credit, amount uint64, timeout int) api.Transfer {
	t := move(id, debit, credit, amount, api.Pending)
	t.Timeout = timeout
	return t
}

// second: a second step.
func second(id, pending, amount uint64, flags int) api.Transfer {
	return api.Transfer{ID: low(id), PendingID: low(pending), Amount: low(amount), Flags: flags}
}

func fresh(id uint64, ledger, flags int) api.Account {
	return api.Account{ID: low(id), Ledger: ledger, Flags: flags}
}

// The accounts that most tests have: 1 to 4 of ledger 1, 5 limits its debits, 6 its credits, 7 and 8 are of ledger 2.
func opened(t *testing.T) *twin {
	t.Helper()
	x := newTwin(t)
	x.make([]api.Account{
		fresh(1, 1, 0), fresh(2, 1, 0), fresh(3, 1, 0), fresh(4, 1, 0),
		fresh(5, 1, api.DebitLimit), fresh(6, 1, api.CreditLimit), fresh(7, 2, 0), fresh(8, 2, 0),
	})
	return x
}

func TestExample(t *testing.T) {
	x := newTwin(t)
	x.make([]api.Account{fresh(1, 1, 0), fresh(1, 1, 0), fresh(2, 1, 0)}, what(1, api.Same))
	x.do([]api.Transfer{move(1, 1, 2, 5, 0), move(1, 1, 2, 5, 0)}, what(1, api.Same))
	x.sums(1, low(0), low(5), low(0), low(0))
}

func TestNew(t *testing.T) {
	e := New()
	if e.Now() != 0 || len(e.Accounts()) != 0 {
		t.Fatal(e.Now(), e.Accounts())
	}
	for _, id := range []api.Num{{}, low(1), low(math.MaxUint64), {Hi: 1}, greatest()} {
		checkNoAccount(t, e, id)
		checkNoTransfer(t, e, id)
	}
	newTwin(t).check()
	if New() == e {
		t.Fatal("it isn't new")
	}
}

func TestWhatIsNotThere(t *testing.T) {
	x := opened(t)
	x.one(api.Fine, move(1001, 1, 2, 5, 0))
	for _, id := range []api.Num{{}, low(9), {Hi: 1, Lo: 1}, low(1001), greatest()} {
		checkNoAccount(t, x.e, id)
	}
	for _, id := range []api.Num{{}, low(1), low(1002), {Hi: 1, Lo: 1001}, greatest()} {
		checkNoTransfer(t, x.e, id)
	}
}

func TestAccountIsMade(t *testing.T) {
	x := newTwin(t)
	none := (&rows.List{}).Root(nil)
	flags := []int{0, api.Linked, api.DebitLimit, api.CreditLimit, api.Linked | api.CreditLimit, api.DebitLimit}
	want := []int{0, 0, api.DebitLimit, api.CreditLimit, api.CreditLimit, api.DebitLimit}
	var l []api.Account
	for i, f := range flags {
		l = append(l, fresh(uint64(i+1), -i*i+7, f))
	}
	x.make(l)
	for i := range flags {
		a, ok := x.e.Account(low(uint64(i + 1)))
		if !ok || a != (api.Account{ID: low(uint64(i + 1)), Ledger: -i*i + 7, Flags: want[i], Time: i + 1, Root: none}) {
			t.Fatalf("%+v", a)
		}
	}
}

// Sums, time, rows and root that a request tells are nobody's.
func TestAccountAsItIsNotTold(t *testing.T) {
	x := newTwin(t)
	a := fresh(1, 3, api.DebitLimit)
	a.DebitsPending, a.DebitsPosted, a.CreditsPending, a.CreditsPosted = low(5), greatest(), low(7), low(8)
	a.Time, a.Rows, a.Root = 9, 10, api.Hash{11}
	x.make([]api.Account{a})
	got, _ := x.e.Account(low(1))
	if got != (api.Account{ID: low(1), Ledger: 3, Flags: api.DebitLimit, Time: 1, Root: sha.Of(nil)}) {
		t.Fatalf("%+v", got)
	}
}

func TestAccountCodes(t *testing.T) {
	x := newTwin(t)
	x.make([]api.Account{fresh(1, 1, 0), fresh(2, 2, api.DebitLimit)})
	for _, c := range []struct {
		a    api.Account
		want int
	}{
		{fresh(0, 1, 0), api.IDZero},
		{fresh(0, 0, api.Closed), api.IDZero},
		{fresh(3, 1, api.Closed), api.FlagsBad},
		{fresh(3, 0, 16), api.FlagsBad},
		{fresh(3, 1, api.DebitLimit|api.CreditLimit), api.FlagsBad},
		{fresh(3, 1, -2), api.FlagsBad},
		{fresh(3, 1, math.MinInt), api.FlagsBad},
		{fresh(1, 2, api.Closed), api.FlagsBad}, // ahead of what it parts in
		{fresh(3, 0, 0), api.LedgerZero},
		{fresh(1, 0, api.DebitLimit), api.LedgerZero},
		{fresh(1, 2, api.DebitLimit), api.OtherLedger},
		{fresh(2, 1, 0), api.OtherLedger},
		{fresh(1, 1, api.DebitLimit), api.OtherFlags},
		{fresh(2, 2, api.CreditLimit), api.OtherFlags},
		{fresh(1, 1, 0), api.Same},
		{fresh(2, 2, api.DebitLimit), api.Same},
	} {
		x.make([]api.Account{c.a}, what(0, c.want))
	}
	x.make([]api.Account{fresh(0, 1, 0), fresh(3, 1, 0), fresh(1, 3, 0), fresh(4, 1, 0)}, what(0, api.IDZero), what(2, api.OtherLedger))
	if a, _ := x.e.Account(low(4)); a.Time != 4 {
		t.Fatal("what isn't done took a time", a.Time)
	}
}

func TestAgain(t *testing.T) {
	x := newTwin(t)
	x.make([]api.Account{fresh(1, 1, 0), fresh(1, 1, 0), fresh(1, 2, 0), fresh(1, 1, api.DebitLimit), fresh(2, 1, 0)},
		what(1, api.Same), what(2, api.OtherLedger), what(3, api.OtherFlags))
	x.make([]api.Account{fresh(2, 1, api.Linked), fresh(3, 1, 0)}, what(0, api.Same), what(1, api.LinkFailed))
	x.make([]api.Account{fresh(3, 1, api.Linked), fresh(3, 1, 0)}, what(0, api.LinkFailed), what(1, api.Same))
	x.make([]api.Account{fresh(4, 1, api.Linked), fresh(5, 1, 0), fresh(4, 1, 0)}, what(2, api.Same))
}

// Of an account that a transfer closed Closed plays no part.
func TestAgainClosed(t *testing.T) {
	x := opened(t)
	x.one(api.Fine, move(1, 1, 2, 0, api.Pending|api.CloseDebit|api.CloseCredit))
	x.make([]api.Account{fresh(1, 1, 0), fresh(2, 1, api.DebitLimit)}, what(0, api.Same), what(1, api.OtherFlags))
	x.closed(1, true)
}

func TestMaxAccounts(t *testing.T) {
	x := newTwin(t)
	var l []api.Account
	for id := range uint64(31) {
		l = append(l, fresh(id+1, 1, 0))
	}
	x.make(l)
	// In a chain that fails the last place is taken, and free again.
	x.make([]api.Account{fresh(50, 1, api.Linked), fresh(51, 1, api.Linked), fresh(52, 1, 0)},
		what(0, api.LinkFailed), what(1, api.Table), what(2, api.LinkFailed))
	x.make([]api.Account{fresh(50, 1, api.Linked), fresh(1, 1, 0)}, what(0, api.LinkFailed), what(1, api.Same))
	x.make([]api.Account{fresh(32, 1, 0), fresh(33, 1, 0), fresh(34, 1, 0)}, what(1, api.Table), what(2, api.Table))
	if len(x.e.Accounts()) != 32 {
		t.Fatal(len(x.e.Accounts()))
	}
	// What comes ahead of Table.
	x.make([]api.Account{fresh(0, 1, 0), fresh(33, 1, 8), fresh(33, 0, 0), fresh(32, 2, 0), fresh(32, 1, 2), fresh(32, 1, 0), fresh(33, 1, api.Linked)},
		what(0, api.IDZero), what(1, api.FlagsBad), what(2, api.LedgerZero), what(3, api.OtherLedger), what(4, api.OtherFlags), what(5, api.Same), what(6, api.Table))
	x.one(api.Fine, move(1, 32, 1, 5, 0))
}

func TestMaxAccountsAtOnce(t *testing.T) {
	x := newTwin(t)
	var l []api.Account
	for id := range uint64(33) {
		l = append(l, fresh(id+1, 1, 0))
	}
	x.make(l, what(32, api.Table))
	y := newTwin(t)
	for i := range l {
		l[i].Flags = api.Linked
	}
	l[32].Flags = 0
	var want []api.Result
	for i := range 32 {
		want = append(want, what(i, api.LinkFailed))
	}
	y.make(l, append(want, what(32, api.Table))...)
	l[31].Flags = 0
	y.make(l[:32])
}

// moves: so many transfers, from an ID on.
func moves(id, count uint64) []api.Transfer {
	var l []api.Transfer
	for i := range count {
		l = append(l, move(id+i, 1+i%2, 2-i%2, i, 0))
	}
	return l
}

func TestMaxTransfer(t *testing.T) {
	x := opened(t)
	x.do(moves(1, 250))
	x.one(api.Fine, hold(251, 1, 2, 5, 3))
	x.do(moves(252, 4)) // 255
	chain := moves(300, 3)
	chain[0].Flags, chain[1].Flags = api.Linked, api.Linked
	x.do(chain, what(0, api.LinkFailed), what(1, api.Table), what(2, api.LinkFailed))
	x.do([]api.Transfer{move(300, 1, 2, 1, api.Linked), move(301, 1, 1, 1, 0)}, what(0, api.LinkFailed), what(1, api.Table))
	x.do([]api.Transfer{move(300, 1, 2, 1, api.Linked), move(300, 1, 2, 1, 0)}, what(0, api.LinkFailed), what(1, api.Same))
	x.do([]api.Transfer{move(256, 1, 2, 7, 0), move(257, 1, 2, 7, 0), second(258, 251, 0, api.Post)}, what(1, api.Table), what(2, api.Table))
	// What comes ahead of Table, and behind it.
	x.do([]api.Transfer{move(0, 1, 2, 7, 0), move(257, 1, 2, 7, 512), move(257, 1, 2, 7, api.Post), {ID: low(257), Timeout: 1}, move(256, 1, 2, 8, 0), move(256, 1, 2, 7, 0)},
		what(0, api.IDZero), what(1, api.FlagsBad), what(2, api.PendingBad), what(3, api.TimeoutBad), what(4, api.OtherAmount), what(5, api.Same))
	for _, l := range []api.Transfer{move(257, 99, 2, 7, 0), move(257, 1, 99, 7, 0), move(257, 1, 7, 7, 0), second(257, 999, 7, api.Void), second(257, 1, 7, api.Post), second(257, 251, 7, api.Post)} {
		x.one(api.Table, l)
	}
	// What waits expires all the same, and accounts are made.
	x.tick(3)
	x.state(251, api.Expired)
	x.make([]api.Account{fresh(9, 1, 0)})
}

// MaxTransfer is of transfers, whatever became of them.
func TestMaxTransferAtOnce(t *testing.T) {
	x := opened(t)
	l := moves(1, 258)
	for i := range l {
		if i%3 == 0 {
			l[i].Flags |= api.Pending
		}
	}
	x.do(l, what(256, api.Table), what(257, api.Table))
	y := opened(t)
	for i := range l {
		l[i].Flags |= api.Linked
	}
	l[256].Flags = 0
	var want []api.Result
	for i := range 256 {
		want = append(want, what(i, api.LinkFailed))
	}
	y.do(l[:257], append(want, what(256, api.Table))...)
	l[255].Flags = 0
	y.do(l[:256])
}

func TestTransferIsMade(t *testing.T) {
	x := opened(t)
	x.tick(6)
	told := api.Transfer{ID: low(1), Debit: low(1), Credit: low(2), Amount: low(5), Ledger: 1, Timeout: 8, Flags: api.Pending | api.Linked, Time: 77, Tick: 78, State: 79}
	x.do([]api.Transfer{told, move(2, 2, 1, 3, 0)})
	want := told
	want.Time, want.Tick, want.State = 9, 6, api.Waiting
	if got, ok := x.e.Transfer(low(1)); !ok || got != want {
		t.Fatalf("%+v, want %+v", got, want)
	}
	want = move(2, 2, 1, 3, 0)
	want.Time, want.Tick = 10, 6
	if got, ok := x.e.Transfer(low(2)); !ok || got != want {
		t.Fatalf("%+v, want %+v", got, want)
	}
	x.sums(1, low(5), low(0), low(0), low(3))
	x.sums(2, low(0), low(3), low(5), low(0))
}

// A second step is as it was told, too: what it didn't tell it hasn't.
func TestSecondStepIsMade(t *testing.T) {
	x := opened(t)
	x.one(api.Fine, hold(1, 1, 2, 5, 8))
	x.tick(4)
	told := second(2, 1, 0, api.Post)
	told.Time, told.Tick, told.State = 77, 78, api.Waiting
	x.one(api.Fine, told)
	want := second(2, 1, 0, api.Post)
	want.Time, want.Tick = 10, 4
	if got, ok := x.e.Transfer(low(2)); !ok || got != want {
		t.Fatalf("%+v, want %+v", got, want)
	}
	x.amount(2, low(5))
}

func TestTransferCodes(t *testing.T) {
	x := opened(t)
	x.one(api.Fine, hold(1, 1, 2, 5, 9))
	x.one(api.Fine, move(2, 3, 4, 0, api.Pending|api.CloseDebit)) // 3 is closed
	change := func(f func(t *api.Transfer)) api.Transfer {
		t := hold(1, 1, 2, 5, 9)
		f(&t)
		return t
	}
	for i, c := range []struct {
		t    api.Transfer
		want int
	}{
		{move(0, 1, 2, 5, 0), api.IDZero},
		{move(0, 99, 2, 5, 256), api.IDZero},
		{move(9, 1, 2, 5, 256), api.FlagsBad},
		{move(9, 1, 2, 5, -1), api.FlagsBad},
		{move(9, 1, 2, 5, math.MinInt), api.FlagsBad},
		{move(9, 1, 2, 5, api.Pending|api.Post), api.FlagsBad},
		{move(9, 1, 2, 5, api.CloseDebit), api.FlagsBad},
		{second(9, 1, 5, api.Post|api.BalanceCredit), api.FlagsBad},
		{second(9, 0, 5, api.Post|api.Void), api.FlagsBad},
		{change(func(t *api.Transfer) { t.Flags = 256 }), api.FlagsBad}, // ahead of OtherFlags
		{second(9, 0, 5, api.Post), api.PendingBad},
		{second(9, 1, 5, 0), api.PendingBad},
		{second(9, 9, 5, api.Void), api.PendingBad},
		{api.Transfer{ID: low(9), PendingID: low(1), Timeout: 1}, api.PendingBad},
		{api.Transfer{ID: low(9), Timeout: 1}, api.TimeoutBad},
		{change(func(t *api.Transfer) { t.Flags = 0 }), api.TimeoutBad},
		{change(func(t *api.Transfer) { t.Flags, t.Debit = api.Pending|api.CloseDebit, low(9) }), api.OtherFlags},
		{change(func(t *api.Transfer) { t.Debit, t.Credit = low(99), low(1) }), api.OtherDebit},
		{change(func(t *api.Transfer) { t.Credit, t.Amount = low(99), low(1) }), api.OtherCredit},
		{change(func(t *api.Transfer) { t.Amount, t.Timeout = low(6), 8 }), api.OtherAmount},
		{change(func(t *api.Transfer) { t.Timeout, t.Ledger = 8, 2 }), api.OtherTimeout},
		{change(func(t *api.Transfer) { t.Ledger = 2 }), api.OtherLedger},
		{hold(1, 1, 2, 5, 9), api.Same},
		{move(9, 99, 99, 5, 0), api.NoDebit},
		{move(9, 0, 2, 5, 0), api.NoDebit},
		{move(9, 99, 7, 5, 0), api.NoDebit},
		{move(9, 1, 99, 5, 0), api.NoCredit},
		{move(9, 1, 0, 5, 0), api.NoCredit},
		{move(9, 1, 1, 5, 0), api.NoCredit},
		{move(9, 7, 99, 5, 0), api.NoCredit},
		{move(9, 7, 7, 5, 0), api.NoCredit},
		{move(9, 3, 3, 5, 0), api.NoCredit},
		{move(9, 1, 7, 5, 0), api.LedgerBad},
		{move(9, 7, 1, 5, 0), api.LedgerBad},
		{move(9, 7, 8, 5, 0), api.LedgerBad},
		{move(9, 3, 7, 5, 0), api.LedgerBad},
		{move(9, 3, 1, 5, 0), api.DebitClosed},
		{move(9, 1, 3, 5, 0), api.CreditClosed},
		{move(9, 5, 3, 5, 0), api.CreditClosed},
	} {
		x.one(c.want, c.t)
		if x.m.time != 10 {
			t.Fatal(i, x.m.time)
		}
	}
	x.one(api.Fine, move(9, 1, 2, 5, 0))
}

// Of a second step what it parts in from one that is there: its PendingID.
func TestRepeatOfSecondStep(t *testing.T) {
	x := opened(t)
	x.do([]api.Transfer{hold(1, 1, 2, 5, 0), hold(2, 1, 2, 5, 0), second(3, 1, 4, api.Post)})
	x.do([]api.Transfer{second(3, 2, 4, api.Post), second(3, 1, 4, api.Void), second(3, 1, 5, api.Post), second(3, 1, 4, api.Post|api.Linked), second(3, 1, 4, api.Post)},
		what(0, api.OtherPending), what(1, api.OtherFlags), what(2, api.OtherAmount), what(3, api.Same), what(4, api.LinkFailed))
	told := second(3, 1, 4, api.Post)
	told.Debit, told.Credit, told.Ledger = low(1), low(2), 1
	x.one(api.OtherDebit, told) // also where it is the same party
	told.Debit = api.Num{}
	x.one(api.OtherCredit, told)
	told.Credit = api.Num{}
	x.one(api.OtherLedger, told)
}

func TestRepeat(t *testing.T) {
	x := opened(t)
	x.do([]api.Transfer{move(1, 1, 2, 5, 0), move(1, 1, 2, 5, 0), move(1, 2, 1, 5, 0), move(1, 1, 2, 5, api.Pending), move(2, 1, 2, 5, 0)},
		what(1, api.Same), what(2, api.OtherDebit), what(3, api.OtherFlags))
	x.do([]api.Transfer{move(2, 1, 2, 5, api.Linked), move(3, 1, 2, 5, 0)}, what(0, api.Same), what(1, api.LinkFailed))
	x.do([]api.Transfer{move(3, 1, 2, 5, api.Linked), move(3, 1, 2, 5, 0)}, what(0, api.LinkFailed), what(1, api.Same))
	// One that was told as linked is the same without.
	x.do([]api.Transfer{move(4, 1, 2, 5, api.Linked), move(5, 1, 2, 5, 0), move(4, 1, 2, 5, 0)}, what(2, api.Same))
	// Of a balancing one it counts what was told, not what it moved.
	x.do([]api.Transfer{move(6, 1, 2, 9, api.BalanceCredit), move(6, 1, 2, 9, api.BalanceCredit), move(6, 1, 2, 0, api.BalanceCredit)},
		what(1, api.Same), what(2, api.OtherAmount))
	x.amount(6, low(0))
	// Nor does what became of it.
	x.do([]api.Transfer{hold(7, 1, 2, 5, 1), second(8, 7, 0, api.Void), hold(7, 1, 2, 5, 1)}, what(2, api.Same))
}

func TestChainDone(t *testing.T) {
	x := opened(t)
	x.do([]api.Transfer{move(1, 1, 2, 5, api.Linked), move(2, 2, 3, 5, api.Linked), move(3, 3, 4, 5, 0)})
	x.sums(1, low(0), low(5), low(0), low(0))
	x.sums(4, low(0), low(0), low(0), low(5))
	x.make([]api.Account{fresh(11, 1, api.Linked), fresh(12, 1, api.Linked), fresh(13, 1, 0)})
	if a, _ := x.e.Account(low(13)); a.Time != 14 {
		t.Fatal(a.Time)
	}
}

// A chain of four, one of which has a code; what has another one behind it isn't looked at.
func TestChainFails(t *testing.T) {
	for bad := range 4 {
		for second := bad; second < 4; second++ {
			x := opened(t)
			var l []api.Transfer
			var a []api.Account
			var want, wantOf []api.Result
			for i := range 4 {
				l = append(l, move(uint64(i+1), 1, 2, 5, api.Linked))
				a = append(a, fresh(uint64(i+11), 1, api.Linked))
				want = append(want, what(i, api.LinkFailed))
				wantOf = append(wantOf, what(i, api.LinkFailed))
			}
			l[3].Flags, a[3].Flags = 0, 0
			l[second].Debit, a[second].ID = low(99), low(0)
			l[bad].Ledger, a[bad].Ledger = 7, 0
			l[bad].Debit, a[bad].ID = low(1), low(uint64(bad+11))
			want[bad].Code, wantOf[bad].Code = api.LedgerBad, api.LedgerZero
			x.do(l, want...)
			x.make(a, wantOf...)
			if len(x.m.entries) != 0 || len(x.m.accounts) != 8 {
				t.Fatal("something was made")
			}
			// Its times, places and numbers are free.
			x.do([]api.Transfer{move(1, 2, 1, 7, 0)})
			x.make([]api.Account{fresh(11, 2, 0)})
			if got, _ := x.e.Transfer(low(1)); got.Time != 9 {
				t.Fatal(got.Time)
			}
			if got, _ := x.e.Account(low(11)); got.Time != 10 {
				t.Fatal(got.Time)
			}
		}
	}
}

func TestChainOpen(t *testing.T) {
	x := opened(t)
	x.do([]api.Transfer{move(1, 1, 2, 5, api.Linked)}, what(0, api.LinkOpen))
	x.do([]api.Transfer{move(1, 1, 2, 5, 0), move(2, 1, 2, 5, api.Linked), move(3, 1, 2, 5, api.Linked)}, what(1, api.LinkFailed), what(2, api.LinkOpen))
	x.do([]api.Transfer{move(2, 1, 2, 5, api.Linked), move(3, 1, 1, 5, api.Linked), move(4, 1, 2, 5, api.Linked)},
		what(0, api.LinkFailed), what(1, api.NoCredit), what(2, api.LinkFailed))
	x.do([]api.Transfer{move(2, 1, 2, 5, api.Linked), move(3, 1, 2, 5, api.Linked), move(4, 1, 2, 5, api.Linked|256)},
		what(0, api.LinkFailed), what(1, api.LinkFailed), what(2, api.FlagsBad))
	x.do([]api.Transfer{move(0, 1, 2, 5, api.Linked)}, what(0, api.IDZero))
	x.do([]api.Transfer{move(2, 1, 2, 5, -1)}, what(0, api.FlagsBad)) // all flags, Linked too
	x.do([]api.Transfer{move(2, 1, 2, 5, -1), move(2, 1, 2, 5, 0)}, what(0, api.FlagsBad), what(1, api.LinkFailed))
	x.do([]api.Transfer{move(2, 1, 2, 5, -2), move(2, 1, 2, 5, 0)}, what(0, api.FlagsBad))
	x.sums(1, low(0), low(10), low(0), low(0))
	x.make([]api.Account{fresh(11, 1, api.Linked)}, what(0, api.LinkOpen))
	x.make([]api.Account{fresh(11, 1, api.Linked), fresh(12, 1, api.Linked)}, what(0, api.LinkFailed), what(1, api.LinkOpen))
	x.make([]api.Account{fresh(11, 1, api.Linked), fresh(12, 0, api.Linked)}, what(0, api.LinkFailed), what(1, api.LedgerZero))
	x.make([]api.Account{fresh(11, 0, api.Linked), fresh(12, 1, api.Linked)}, what(0, api.LedgerZero), what(1, api.LinkFailed))
	x.make([]api.Account{fresh(11, 1, 0)})
	if a, _ := x.e.Account(low(11)); a.Time != 11 {
		t.Fatal(a.Time)
	}
}

func TestSeveralChains(t *testing.T) {
	x := opened(t)
	x.do([]api.Transfer{
		move(1, 1, 2, 5, api.Linked), move(2, 1, 2, 5, 0), // done
		move(3, 1, 2, 5, api.Linked), move(4, 1, 99, 5, 0), // fails
		move(5, 1, 2, 5, 0),                                // alone, done
		move(6, 1, 1, 5, 0),                                // alone, has a code
		move(7, 99, 2, 5, api.Linked), move(8, 1, 2, 5, 0), // fails
		move(3, 1, 2, 5, api.Linked), move(8, 1, 2, 5, 0), // done, though it was tried before
		move(9, 1, 2, 5, api.Linked), move(10, 1, 2, 5, api.Linked), // open
	}, what(2, api.LinkFailed), what(3, api.NoCredit), what(5, api.NoCredit), what(6, api.NoDebit), what(7, api.LinkFailed), what(10, api.LinkFailed), what(11, api.LinkOpen))
	for id, want := range map[uint64]int{1: 9, 2: 10, 5: 11, 3: 12, 8: 13} {
		if got, ok := x.e.Transfer(low(id)); !ok || got.Time != want {
			t.Fatal(id, got.Time, want)
		}
	}
	x.make([]api.Account{fresh(11, 1, api.Linked), fresh(12, 1, 0), fresh(13, 1, api.Linked), fresh(13, 1, 0), fresh(14, 1, 0), fresh(13, 1, api.Linked)},
		what(2, api.LinkFailed), what(3, api.Same), what(5, api.LinkOpen))
}

// What a chain that failed did to what was there is laid back whole: sums, rows, states, what was closed or opened.
func TestChainLaidBack(t *testing.T) {
	x := opened(t)
	x.do([]api.Transfer{hold(1, 1, 2, 5, 4), hold(2, 1, 2, 6, 4), move(3, 3, 4, 7, api.Pending|api.CloseDebit)})
	before, all := x.e.Rows(low(1)), x.e.Accounts()
	x.do([]api.Transfer{
		second(4, 1, 3, api.Post|api.Linked), second(5, 2, 0, api.Void|api.Linked), second(6, 3, 0, api.Void|api.Linked),
		move(7, 3, 4, 5, api.Linked), move(8, 1, 4, 5, api.Linked|api.Pending|api.CloseCredit|api.CloseDebit), move(9, 1, 2, 1, 0),
	}, what(0, api.LinkFailed), what(1, api.LinkFailed), what(2, api.LinkFailed), what(3, api.LinkFailed), what(4, api.LinkFailed), what(5, api.DebitClosed))
	if !slices.Equal(x.e.Accounts(), all) || x.e.Rows(low(1)).Len() != before.Len() {
		t.Fatal("it isn't as it was")
	}
	for id := range uint64(3) {
		x.state(id+1, api.Waiting)
	}
	x.closed(3, true)
	x.closed(1, false)
	x.do([]api.Transfer{second(4, 1, 3, api.Post|api.Linked), second(5, 2, 0, api.Void|api.Linked), second(6, 3, 0, api.Void|api.Linked), move(7, 3, 4, 5, 0)})
	x.sums(3, low(0), low(5), low(0), low(0))
}

// Each event of a chain sees what those ahead of it did.
func TestChainWithin(t *testing.T) {
	x := opened(t)
	x.do([]api.Transfer{move(1, 5, 1, 5, api.Linked), move(2, 1, 5, 5, 0)}, what(0, api.OverCredits), what(1, api.LinkFailed))
	x.do([]api.Transfer{move(2, 1, 5, 5, api.Linked), move(1, 5, 1, 5, 0)})
	x.do([]api.Transfer{hold(3, 1, 2, 5, 0), second(4, 3, 0, api.Void|api.Linked), second(5, 3, 0, api.Post)}, what(1, api.LinkFailed), what(2, api.DonePending))
	x.do([]api.Transfer{move(6, 1, 2, 5, api.Linked|api.Pending), second(7, 6, 2, api.Post)})
	x.state(6, api.Done)
	x.do([]api.Transfer{move(8, 1, 2, 5, api.Linked|api.Pending|api.CloseCredit), move(9, 2, 1, 1, 0)}, what(0, api.LinkFailed), what(1, api.DebitClosed))
	x.closed(2, false)
}

func TestOtherRequests(t *testing.T) {
	x := opened(t)
	l := []api.Account{fresh(20, 1, 0)}
	m := []api.Transfer{move(20, 1, 2, 5, 0)}
	for _, kind := range []int{0, 4, 5, 6, 7, 8, 9, 10, -1, -3, 256 + 1, 1 << 32, math.MaxInt, math.MinInt, math.MinInt + 3} {
		x.bad(api.Request{Kind: kind, Accounts: l, Transfers: m, ID: low(1), From: 5, To: 6, Limit: 7})
	}
	x.make(nil)
	x.do(nil)
	// Of a request of one kind the other parts play none.
	if got, err := x.apply(api.Request{Kind: api.MakeTransfers, Accounts: l, From: 7}); got != nil || err != api.OK || x.e.Now() != 0 {
		t.Fatal(got, err, x.e.Now())
	}
	if got, err := x.apply(api.Request{Kind: api.MakeAccounts, Transfers: m, From: 7}); got != nil || err != api.OK || x.e.Now() != 0 {
		t.Fatal(got, err, x.e.Now())
	}
	if got, err := x.apply(api.Request{Kind: api.Tick, Accounts: l, Transfers: m, From: 7, To: 9}); got != nil || err != api.OK || x.e.Now() != 7 {
		t.Fatal(got, err, x.e.Now())
	}
	if len(x.m.accounts) != 8 || len(x.m.entries) != 0 {
		t.Fatal("something was made")
	}
}

func TestAccountsRise(t *testing.T) {
	x := newTwin(t)
	ids := []api.Num{low(9), {Hi: 1}, low(2), greatest(), low(math.MaxUint64), {Hi: 1, Lo: 1}, low(1), {Hi: math.MaxUint64}, {Hi: 2, Lo: 1}, low(1 << 63), {Hi: 1 << 63}}
	var l []api.Account
	for _, id := range ids {
		l = append(l, api.Account{ID: id, Ledger: 1})
	}
	x.make(l)
	var got []api.Num
	for _, a := range x.e.Accounts() {
		got = append(got, a.ID)
	}
	want := []api.Num{low(1), low(2), low(9), low(1 << 63), low(math.MaxUint64), {Hi: 1}, {Hi: 1, Lo: 1}, {Hi: 2, Lo: 1}, {Hi: 1 << 63}, {Hi: math.MaxUint64}, greatest()}
	if !slices.Equal(got, want) {
		t.Fatal(got)
	}
}

// Numbers of accounts and transfers are apart, and of any size.
func TestNumbersOfAnySize(t *testing.T) {
	x := newTwin(t)
	one, two := api.Num{Hi: 1}, greatest()
	x.make([]api.Account{{ID: one, Ledger: math.MinInt}, {ID: two, Ledger: math.MinInt}, {ID: low(1), Ledger: math.MaxInt}})
	x.do([]api.Transfer{
		{ID: one, Debit: one, Credit: two, Amount: greatest(), Ledger: math.MinInt, Flags: api.Pending, Timeout: math.MaxInt},
		{ID: two, PendingID: one, Debit: one, Credit: two, Amount: under(1), Ledger: math.MinInt, Flags: api.Post},
		{ID: low(1), Debit: low(1), Credit: two, Ledger: math.MaxInt},
	}, what(2, api.LedgerBad))
	if x.e.Amount(one) != greatest() || x.e.Amount(two) != under(1) {
		t.Fatal(x.e.Amount(one), x.e.Amount(two))
	}
}

// What is handed in is neither changed nor kept; what is answered is the caller's.
func TestHandedInAndOut(t *testing.T) {
	x := opened(t)
	a := []api.Account{fresh(11, 1, api.Linked), fresh(12, 1, 0)}
	m := []api.Transfer{move(1, 1, 2, 5, api.Linked), hold(2, 1, 2, 5, 3), move(3, 1, 1, 5, 0)}
	wantA, wantM := slices.Clone(a), slices.Clone(m)
	x.make(a)
	x.do(m, what(2, api.NoCredit))
	if !slices.Equal(a, wantA) || !slices.Equal(m, wantM) {
		t.Fatal("what was handed in is changed")
	}
	clear(a)
	clear(m)
	x.check()
	list := x.e.Rows(low(1))
	list.Add(api.Row{Time: 99})
	all := x.e.Accounts()
	clear(all)
	got, _ := x.e.Apply(api.Request{Kind: api.MakeTransfers, Transfers: []api.Transfer{move(3, 1, 1, 5, 0)}})
	clear(got)
	x.check()
	// A list of rows stays what it was.
	before := x.e.Rows(low(1))
	x.do([]api.Transfer{move(4, 1, 2, 5, 0)})
	if before.Len() != 2 || x.e.Rows(low(1)).Len() != 3 {
		t.Fatal(before.Len())
	}
}

func TestCopy(t *testing.T) {
	x := opened(t)
	x.do([]api.Transfer{hold(1, 1, 2, 5, 4), move(2, 3, 4, 6, api.Pending|api.CloseDebit), move(3, 1, 2, 7, 0)})
	x.tick(2)
	y := x.copy()
	y.check()
	// Alike requests on both, and unlike ones on each.
	y.do([]api.Transfer{second(4, 1, 3, api.Post), move(5, 1, 2, 9, 0)})
	x.check()
	x.make([]api.Account{fresh(11, 1, 0)})
	y.check()
	x.do([]api.Transfer{second(4, 1, 0, api.Void), second(6, 2, 0, api.Void), move(7, 3, 2, 9, api.Linked), move(8, 11, 2, 9, 0)})
	y.check()
	y.make([]api.Account{fresh(11, 2, api.DebitLimit), fresh(12, 2, 0)})
	x.check()
	y.tick(9)
	x.check()
	x.tick(6)
	y.check()
	z := y.copy()
	y.do([]api.Transfer{move(9, 1, 2, 9, 0)})
	z.check()
	z.do([]api.Transfer{move(9, 2, 1, 8, 0)})
	y.check()
	x.check()
}

// The same of a copy of none, and of chains that are laid back on one of both.
func TestCopyOneSided(t *testing.T) {
	x := newTwin(t)
	y := x.copy()
	x.make([]api.Account{fresh(1, 1, 0), fresh(2, 1, 0)})
	y.check()
	y.make([]api.Account{fresh(1, 2, 0)})
	x.check()
	x.do([]api.Transfer{move(1, 1, 2, 5, 0)})
	z := x.copy()
	z.do([]api.Transfer{move(2, 1, 2, 5, api.Linked), move(3, 1, 1, 5, 0)}, what(0, api.LinkFailed), what(1, api.NoCredit))
	x.check()
	x.do([]api.Transfer{move(2, 1, 2, 6, api.Linked), move(3, 1, 1, 5, 0)}, what(0, api.LinkFailed), what(1, api.NoCredit))
	z.check()
	x.do([]api.Transfer{move(2, 1, 2, 6, 0)})
	z.check()
	z.do([]api.Transfer{move(2, 2, 1, 1, 0)})
	x.check()
}
