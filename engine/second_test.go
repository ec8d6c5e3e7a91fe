package engine

import (
	"math"
	"slices"
	"testing"

	"pacioli/api"
)

func TestSecondStepCodes(t *testing.T) {
	x := opened(t)
	x.do([]api.Transfer{
		hold(1, 1, 2, 5, 0), move(2, 1, 2, 5, 0), hold(3, 1, 2, 5, 0), second(4, 3, 0, api.Post),
		hold(5, 1, 2, 5, 0), second(6, 5, 0, api.Void), hold(7, 1, 2, 5, 3),
	})
	x.tick(3)
	party := func(t api.Transfer, debit, credit uint64, ledger int) api.Transfer {
		t.Debit, t.Credit, t.Ledger = low(debit), low(credit), ledger
		return t
	}
	for _, flag := range []int{api.Post, api.Void} {
		for _, c := range []struct {
			t    api.Transfer
			want int
		}{
			{second(9, 99, 5, flag), api.NoPending},
			{party(second(9, 99, 9, flag), 98, 97, 7), api.NoPending},
			{api.Transfer{ID: low(9), PendingID: api.Num{Hi: 1, Lo: 1}, Flags: flag}, api.NoPending},
			{second(9, 2, 5, flag), api.NotPending},
			{second(9, 4, 5, flag), api.NotPending},
			{second(9, 6, 5, flag), api.NotPending},
			{party(second(9, 2, 9, flag), 98, 97, 7), api.NotPending},
			{second(9, 3, 5, flag), api.DonePending},
			{second(9, 5, 5, flag), api.DonePending},
			{party(second(9, 3, 9, flag), 98, 97, 7), api.DonePending},
			{second(9, 7, 5, flag), api.GonePending},
			{party(second(9, 7, 9, flag), 98, 97, 7), api.GonePending},
			{party(second(9, 1, 5, flag), 2, 0, 0), api.OtherParty},
			{party(second(9, 1, 5, flag), 0, 1, 0), api.OtherParty},
			{party(second(9, 1, 5, flag), 0, 0, 2), api.OtherParty},
			{party(second(9, 1, 5, flag), 0, 0, -1), api.OtherParty},
			{party(second(9, 1, 5, flag), 2, 1, 1), api.OtherParty},
			{party(second(9, 1, 5, flag), 1, 99, 1), api.OtherParty},
			{party(second(9, 1, 6, flag), 1, 2, 9), api.OtherParty}, // ahead of TooMuch
			{party(second(9, 1, 6, flag), 1, 2, 1), api.TooMuch},
			{second(9, 1, 6, flag), api.TooMuch},
			{api.Transfer{ID: low(9), PendingID: low(1), Amount: greatest(), Flags: flag}, api.TooMuch},
			{api.Transfer{ID: low(9), PendingID: low(1), Amount: api.Num{Hi: 1, Lo: 5}, Flags: flag}, api.TooMuch},
		} {
			x.one(c.want, c.t)
		}
	}
	x.one(api.TooMuch, second(9, 1, 4, api.Void))
	x.one(api.TooMuch, second(9, 1, 1, api.Void))
	x.state(1, api.Waiting)
	x.one(api.Fine, party(second(9, 1, 5, api.Void), 1, 2, 1))
}

// The parties may be told, each alone.
func TestSecondStepParty(t *testing.T) {
	for which := range 8 {
		x := opened(t)
		x.one(api.Fine, hold(1, 1, 2, 5, 0))
		s := second(2, 1, 0, api.Post)
		if which&1 != 0 {
			s.Debit = low(1)
		}
		if which&2 != 0 {
			s.Credit = low(2)
		}
		if which&4 != 0 {
			s.Ledger = 1
		}
		x.one(api.Fine, s)
		x.sums(1, low(0), low(5), low(0), low(0))
	}
}

func TestPost(t *testing.T) {
	for _, c := range []struct{ amount, want uint64 }{{0, 5}, {1, 1}, {4, 4}, {5, 5}} {
		x := opened(t)
		x.do([]api.Transfer{move(1, 1, 2, 3, 0), hold(2, 1, 2, 4, 0), hold(3, 1, 2, 5, 0)})
		x.one(api.Fine, second(4, 3, c.amount, api.Post))
		x.sums(1, low(4), low(3+c.want), low(0), low(0))
		x.sums(2, low(0), low(0), low(4), low(3+c.want))
		x.amount(3, low(5)) // what it held
		x.amount(4, low(c.want))
		x.state(3, api.Done)
		x.state(4, api.Posted)
		for _, id := range []uint64{1, 2} {
			l := x.e.Rows(low(id))
			if r := l.At(3); l.Len() != 4 || r.Transfer != low(4) || r.Event != api.Post || r.Amount != low(c.want) || r.Time != 12 {
				t.Fatal(l)
			}
		}
		x.one(api.DonePending, second(5, 3, 0, api.Post))
		x.one(api.DonePending, second(5, 3, 0, api.Void))
		x.one(api.NotPending, second(5, 4, 0, api.Void))
	}
}

func TestVoid(t *testing.T) {
	for _, amount := range []uint64{0, 5} {
		x := opened(t)
		x.do([]api.Transfer{move(1, 1, 2, 3, 0), hold(2, 1, 2, 4, 0), hold(3, 1, 2, 5, 0)})
		x.one(api.Fine, second(4, 3, amount, api.Void))
		x.sums(1, low(4), low(3), low(0), low(0))
		x.sums(2, low(0), low(0), low(4), low(3))
		x.amount(3, low(5))
		x.amount(4, low(5)) // as its row has it
		x.state(3, api.Voided)
		x.state(4, api.Posted)
		x.row(1, api.Row{Transfer: low(4), Time: 12, Event: api.Void, Amount: low(5), DebitsPending: low(4), DebitsPosted: low(3)})
		x.row(2, api.Row{Transfer: low(4), Time: 12, Event: api.Void, Amount: low(5), CreditsPending: low(4), CreditsPosted: low(3)})
		x.one(api.DonePending, second(5, 3, 0, api.Void))
		x.one(api.DonePending, second(5, 3, 0, api.Post))
	}
}

// Of a pending one of 0 there is 0 to be posted, and no more.
func TestSecondStepOfZero(t *testing.T) {
	x := opened(t)
	x.do([]api.Transfer{hold(1, 1, 2, 0, 0), hold(2, 1, 2, 0, 0)})
	x.one(api.TooMuch, second(3, 1, 1, api.Post))
	x.one(api.TooMuch, second(3, 1, 1, api.Void))
	x.do([]api.Transfer{second(3, 1, 0, api.Post), second(4, 2, 0, api.Void)})
}

// In one batch, in any order; also on one that was made in it.
func TestSecondStepsInOneBatch(t *testing.T) {
	x := opened(t)
	x.do([]api.Transfer{second(2, 1, 0, api.Post), hold(1, 1, 2, 5, 0), second(2, 1, 0, api.Post), second(3, 1, 0, api.Void)},
		what(0, api.NoPending), what(3, api.DonePending))
}

// A Void opens what its pending one closed, and nothing else; a Post doesn't.
func TestVoidOpens(t *testing.T) {
	for _, flags := range []int{0, api.CloseDebit, api.CloseCredit, api.CloseDebit | api.CloseCredit} {
		x := opened(t)
		x.one(api.Fine, hold(1, 1, 2, 5, 0)) // it waits ahead, and closes nothing
		x.one(api.Fine, move(2, 1, 2, 6, flags|api.Pending))
		x.one(api.Fine, second(3, 1, 0, api.Void)) // second steps aren't kept off
		x.closed(1, has(flags, api.CloseDebit))
		x.closed(2, has(flags, api.CloseCredit))
		y := x.copy()
		x.one(api.Fine, second(4, 2, 0, api.Void))
		x.closed(1, false)
		x.closed(2, false)
		x.one(api.Fine, move(5, 2, 1, 5, 0))
		y.one(api.Fine, second(4, 2, 0, api.Post))
		y.closed(1, has(flags, api.CloseDebit))
		y.closed(2, has(flags, api.CloseCredit))
	}
}

// What another one closed stays so, whatever is opened beside it.
func TestVoidOpensItsOwn(t *testing.T) {
	x := opened(t)
	x.one(api.Fine, hold(1, 1, 2, 5, 3))
	x.one(api.Fine, move(2, 3, 2, 6, api.Pending|api.CloseCredit))
	x.one(api.Fine, move(3, 1, 3, 6, api.Pending|api.CloseDebit))
	x.one(api.Fine, second(4, 1, 0, api.Void))
	x.closed(1, true)
	x.closed(2, true)
	x.one(api.Fine, second(5, 2, 0, api.Void))
	x.closed(1, true)
	x.closed(2, false)
	x.one(api.Fine, second(6, 3, 0, api.Post))
	x.closed(1, true)
	x.one(api.DebitClosed, move(7, 1, 2, 6, 0))
}

func TestTick(t *testing.T) {
	x := opened(t)
	x.tick(10)
	x.do([]api.Transfer{hold(1, 1, 2, 5, 3), hold(2, 3, 2, 6, 4)})
	x.tick(12) // ahead of both
	x.state(1, api.Waiting)
	x.tick(13) // just at the first one
	x.state(1, api.Expired)
	x.state(2, api.Waiting)
	x.sums(1, low(0), low(0), low(0), low(0))
	x.sums(2, low(0), low(0), low(6), low(0))
	x.row(1, api.Row{Transfer: low(1), Time: 11, Event: -1, Amount: low(5)})
	x.row(2, api.Row{Transfer: low(1), Time: 11, Event: -1, Amount: low(5), CreditsPending: low(6)})
	x.amount(1, low(5))
	x.one(api.GonePending, second(3, 1, 0, api.Post))
	x.tick(1000) // long behind
	x.state(2, api.Expired)
	x.row(3, api.Row{Transfer: low(2), Time: 12, Event: -1, Amount: low(6)})
	x.one(api.Fine, move(3, 1, 2, 5, 0))
	if got, _ := x.e.Transfer(low(3)); got.Time != 13 || got.Tick != 1000 {
		t.Fatal(got)
	}
}

func TestTickThatIsNotLater(t *testing.T) {
	x := opened(t)
	x.one(api.Fine, hold(1, 1, 2, 5, 1))
	for _, now := range []int{0, -1, math.MinInt} {
		x.bad(api.Request{Kind: api.Tick, From: now})
	}
	x.state(1, api.Waiting)
	x.tick(5)
	x.one(api.Fine, hold(2, 1, 2, 5, 1))
	for _, now := range []int{5, 4, 1, 0, -5, math.MinInt} {
		x.bad(api.Request{Kind: api.Tick, From: now})
	}
	x.state(2, api.Waiting)
	x.tick(6)
	x.tick(math.MaxInt)
	x.bad(api.Request{Kind: api.Tick, From: math.MaxInt})
	x.bad(api.Request{Kind: api.Tick, From: math.MinInt})
}

// A tick at which nothing expires takes no time.
func TestTickTakesNoTime(t *testing.T) {
	x := opened(t)
	x.tick(1)
	x.tick(7)
	x.one(api.Fine, move(1, 1, 2, 5, 0))
	if got, _ := x.e.Transfer(low(1)); got.Time != 9 || got.Tick != 7 {
		t.Fatal(got)
	}
}

// Several at once, in the order in which they were made, whatever their numbers and their times.
func TestTickOfSeveral(t *testing.T) {
	x := opened(t)
	x.one(api.Fine, hold(9, 1, 2, 1, 8))
	x.tick(2)
	x.one(api.Fine, hold(3, 1, 2, 2, 5))
	x.one(api.Fine, hold(5, 1, 2, 4, 99)) // it waits on
	x.tick(4)
	x.do([]api.Transfer{hold(7, 2, 1, 8, 1), hold(1, 1, 3, 16, 1)})
	x.do([]api.Transfer{hold(2, 1, 2, 32, 2), second(4, 2, 0, api.Post)}) // this doesn't wait
	x.tick(9)
	type gone struct {
		id, amount uint64
		time       int
	}
	var got []gone
	l := x.e.Rows(low(1))
	for i := range l.Len() {
		if r := l.At(i); r.Event == -1 {
			got = append(got, gone{r.Transfer.Lo, r.Amount.Lo, r.Time})
		}
	}
	if want := []gone{{9, 1, 16}, {3, 2, 17}, {7, 8, 18}, {1, 16, 19}}; !slices.Equal(got, want) {
		t.Fatal(got)
	}
	x.sums(1, low(4), low(32), low(0), low(0))
	x.row(3, api.Row{Transfer: low(1), Time: 19, Event: -1, Amount: low(16)})
	x.state(2, api.Done)
	x.state(5, api.Waiting)
}

// Without a time above 0 it waits for ever.
func TestTimeoutZero(t *testing.T) {
	x := opened(t)
	x.do([]api.Transfer{hold(1, 1, 2, 5, 0), hold(2, 1, 2, 5, -1), hold(3, 1, 2, 5, math.MinInt)})
	x.tick(1)
	x.tick(math.MaxInt)
	x.sums(1, low(15), low(0), low(0), low(0))
	x.do([]api.Transfer{second(4, 1, 0, api.Post), second(5, 2, 0, api.Post), second(6, 3, 0, api.Void)})
}

// A tick and a timeout may together be more than any int.
func TestTimeoutGreatest(t *testing.T) {
	x := opened(t)
	x.one(api.Fine, hold(1, 1, 2, 5, math.MaxInt))
	x.tick(1)
	x.do([]api.Transfer{hold(2, 1, 2, 6, math.MaxInt), hold(3, 1, 2, 7, math.MaxInt-1)})
	x.tick(math.MaxInt - 1)
	x.sums(1, low(18), low(0), low(0), low(0))
	x.tick(math.MaxInt)
	x.sums(1, low(6), low(0), low(0), low(0))
	x.do([]api.Transfer{hold(4, 1, 2, 5, 1)})
}

// What expires opens what it closed, and frees what it held, also on one account several times.
func TestExpiredOpens(t *testing.T) {
	x := opened(t)
	x.do([]api.Transfer{hold(1, 1, 2, 5, 2)})
	shut := move(2, 1, 2, 6, api.Pending|api.CloseDebit|api.CloseCredit)
	shut.Timeout = 3
	x.one(api.Fine, shut)
	x.tick(2)
	x.closed(1, true)
	x.closed(2, true)
	x.one(api.DebitClosed, move(3, 1, 2, 5, 0))
	x.tick(3)
	x.closed(1, false)
	x.closed(2, false)
	x.one(api.Fine, move(3, 1, 2, 5, 0))
	x.sums(1, low(0), low(5), low(0), low(0))
}

// What expires is what it held, not what was told.
func TestExpiredBalancing(t *testing.T) {
	x := opened(t)
	x.one(api.Fine, move(1, 3, 1, 8, 0))
	all := hold(2, 1, 2, 0, 1)
	all.Flags |= api.BalanceDebit
	x.one(api.Fine, all)
	x.sums(1, low(8), low(0), low(0), low(8))
	x.tick(1)
	x.sums(1, low(0), low(0), low(0), low(8))
	x.sums(2, low(0), low(0), low(0), low(0))
	x.row(1, api.Row{Transfer: low(2), Time: 11, Event: -1, Amount: low(8), CreditsPosted: low(8)})
	x.row(2, api.Row{Transfer: low(2), Time: 11, Event: -1, Amount: low(8)})
	x.amount(2, low(8))
}

// A row of each step: ID, time, flags but Linked, amount, and the sums behind it, of both accounts.
func TestRows(t *testing.T) {
	x := opened(t)
	x.do([]api.Transfer{move(1, 1, 2, 5, api.Linked), move(2, 2, 1, 3, api.Linked|api.BalanceDebit), hold(3, 1, 2, 4, 9)})
	x.do([]api.Transfer{second(4, 3, 1, api.Post|api.Linked), hold(5, 1, 3, 7, 2)})
	x.tick(2)
	one := []api.Row{
		{Transfer: low(1), Time: 9, Amount: low(5), DebitsPosted: low(5)},
		{Transfer: low(2), Time: 10, Event: api.BalanceDebit, Amount: low(3), DebitsPosted: low(5), CreditsPosted: low(3)},
		{Transfer: low(3), Time: 11, Event: api.Pending, Amount: low(4), DebitsPending: low(4), DebitsPosted: low(5), CreditsPosted: low(3)},
		{Transfer: low(4), Time: 12, Event: api.Post, Amount: low(1), DebitsPosted: low(6), CreditsPosted: low(3)},
		{Transfer: low(5), Time: 13, Event: api.Pending, Amount: low(7), DebitsPending: low(7), DebitsPosted: low(6), CreditsPosted: low(3)},
		{Transfer: low(5), Time: 14, Event: -1, Amount: low(7), DebitsPosted: low(6), CreditsPosted: low(3)},
	}
	l := x.e.Rows(low(1))
	for i, want := range one {
		if l.At(i) != want {
			t.Fatalf("%d: %+v, want %+v", i, l.At(i), want)
		}
	}
	three := x.e.Rows(low(3))
	if l.Len() != 6 || x.e.Rows(low(2)).Len() != 4 || three.Len() != 2 || x.e.Rows(low(4)).Len() != 0 {
		t.Fatal(l.Len(), three.Len())
	}
	if three.At(0) != (api.Row{Transfer: low(5), Time: 13, Event: api.Pending, Amount: low(7), CreditsPending: low(7)}) || three.At(1) != (api.Row{Transfer: low(5), Time: 14, Event: -1, Amount: low(7)}) {
		t.Fatal(three)
	}
	a, _ := x.e.Account(low(1))
	if a.Rows != 6 || a.Root != l.Root(nil) {
		t.Fatal(a)
	}
}
