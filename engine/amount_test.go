package engine

import (
	"testing"

	"pacioli/api"
)

// An amount of 0 moves nothing, but it is a transfer, with rows.
func TestAmountZero(t *testing.T) {
	x := opened(t)
	x.do([]api.Transfer{move(1, 1, 2, 0, 0), move(2, 1, 2, 0, api.Pending), second(3, 2, 0, api.Post), move(4, 5, 6, 0, 0)})
	x.sums(1, low(0), low(0), low(0), low(0))
	x.row(2, api.Row{Transfer: low(3), Time: 11, Event: api.Post})
	if a, _ := x.e.Account(low(1)); a.Rows != 3 {
		t.Fatal(a.Rows)
	}
}

// 1 has 20 of credits posted, 3 of debits posted, 4 of debits pending: room 13; 2 has 9 of debits posted, 1 of credits posted, 2 of credits pending: room 6.
func roomy(t *testing.T) *twin {
	t.Helper()
	x := opened(t)
	x.do([]api.Transfer{move(101, 3, 1, 20, 0), move(102, 1, 3, 3, 0), hold(103, 1, 3, 4, 0), move(104, 2, 3, 9, 0), move(105, 3, 2, 1, 0), hold(106, 3, 2, 2, 0)})
	return x
}

func TestBalancing(t *testing.T) {
	const debit, credit = api.BalanceDebit, api.BalanceCredit
	for _, pending := range []int{0, api.Pending} {
		for _, c := range []struct {
			from, to, amount uint64
			flags            int
			want             uint64
		}{
			{1, 4, 0, debit, 13}, // all that is there
			{1, 4, 12, debit, 12},
			{1, 4, 13, debit, 13},
			{1, 4, 14, debit, 13},
			{1, 4, 1 << 60, debit, 13},
			{4, 2, 0, credit, 6},
			{4, 2, 5, credit, 5},
			{4, 2, 6, credit, 6},
			{4, 2, 7, credit, 6},
			{1, 2, 0, debit | credit, 6}, // the lesser one
			{1, 2, 5, debit | credit, 5},
			{1, 2, 7, debit | credit, 6},
			{1, 2, 14, debit | credit, 6},
			{1, 2, 0, debit, 13}, // the other side's room plays no part
			{1, 2, 0, credit, 6},
			{1, 2, 9, credit, 6},
			{1, 2, 14, debit, 13},
			{2, 1, 0, debit, 0}, // no room
			{2, 1, 5, debit, 0},
			{2, 1, 5, credit, 0},
			{2, 1, 0, credit, 0},
			{2, 1, 5, debit | credit, 0},
			{4, 2, 5, debit, 0}, // none of one side, some of the other
			{4, 2, 5, debit | credit, 0},
			{1, 4, 0, debit | credit, 0},
			{1, 4, 5, credit, 0},
			{1, 4, 0, 0, 0}, // without such a flag 0 is 0, and other amounts are these
			{1, 4, 14, 0, 14},
			{4, 2, 7, 0, 7},
		} {
			x := roomy(t)
			x.one(api.Fine, move(1, c.from, c.to, c.amount, c.flags|pending))
			x.amount(1, low(c.want))
			if got, _ := x.e.Transfer(low(1)); got.Amount != low(c.amount) {
				t.Fatal(got)
			}
			l := x.e.Rows(low(c.to))
			if r := l.At(l.Len() - 1); r.Amount != low(c.want) || r.Event != c.flags|pending {
				t.Fatal(r)
			}
		}
	}
}

func TestBalancingRoomOfBoth(t *testing.T) {
	x := opened(t)
	x.do([]api.Transfer{move(101, 3, 1, 6, 0), move(102, 2, 3, 13, 0)}) // room of 1's debits 6, of 2's credits 13
	x.one(api.Fine, move(1, 1, 2, 0, api.BalanceDebit|api.BalanceCredit))
	x.amount(1, low(6))
	x.one(api.Fine, move(2, 1, 2, 9, api.BalanceDebit|api.BalanceCredit))
	x.amount(2, low(0))
	x.one(api.Fine, move(3, 4, 2, 9, api.BalanceCredit))
	x.amount(3, low(7))
}

// Pending ones, too, take room; voided ones give it back; what they hold is what is posted of them.
func TestBalancingPending(t *testing.T) {
	x := roomy(t)
	x.one(api.Fine, move(1, 1, 4, 0, api.BalanceDebit|api.Pending))
	x.one(api.Fine, move(2, 1, 4, 0, api.BalanceDebit))
	x.amount(2, low(0))
	x.one(api.TooMuch, second(3, 1, 14, api.Post))
	x.one(api.TooMuch, second(3, 1, 12, api.Void))
	x.one(api.TooMuch, second(3, 1, 14, api.Void))
	x.one(api.Fine, second(3, 1, 13, api.Void))
	x.amount(3, low(13))
	x.one(api.Fine, move(4, 1, 4, 99, api.BalanceDebit|api.Pending))
	x.amount(4, low(13))
	x.one(api.Fine, second(5, 4, 0, api.Post))
	x.sums(1, low(4), low(16), low(0), low(20))
}

// With room of all numbers Amount 0 is the greatest one.
func TestBalancingGreatest(t *testing.T) {
	x := opened(t)
	x.one(api.Fine, moveNum(1, 3, 1, greatest(), 0))
	x.one(api.Fine, move(2, 1, 4, 0, api.BalanceDebit))
	x.amount(2, greatest())
	y := opened(t)
	y.one(api.Fine, moveNum(1, 3, 1, greatest(), 0))
	y.one(api.Fine, moveNum(2, 1, 4, greatest(), api.BalanceDebit))
	y.amount(2, greatest())
	y.one(api.Overflow, move(3, 1, 2, 1, 0))
	y.one(api.Fine, move(4, 1, 2, 1, api.BalanceDebit)) // cut to 0 ahead of being too much
}

// Within both limits, by balancing; beyond them without.
func TestBalancingLimited(t *testing.T) {
	x := opened(t)
	x.do([]api.Transfer{move(1, 1, 5, 8, 0), move(2, 6, 1, 7, 0), move(10, 1, 2, 20, 0)})
	x.one(api.OverCredits, move(3, 5, 1, 9, 0))
	x.one(api.OverDebits, move(3, 1, 6, 8, 0))
	x.one(api.OverCredits, move(3, 5, 1, 9, api.BalanceCredit)) // it is 1's room, which has enough: 28 less 7
	x.one(api.OverDebits, move(3, 5, 6, 8, api.BalanceDebit))
	x.one(api.Fine, move(3, 5, 6, 9, api.BalanceDebit|api.BalanceCredit))
	x.amount(3, low(7))
	x.one(api.Fine, move(4, 5, 1, 9, api.BalanceDebit))
	x.amount(4, low(1))
}

// Sums may be just 2^128 - 1: posted, pending, and both together, of either side.
func TestOverflow(t *testing.T) {
	for _, c := range []struct {
		name               string
		first, second      int // flags
		debit, from, to    uint64
		amount, more, over api.Num
	}{
		{"posted and posted, debits", 0, 0, 1, 3, 4, under(9), low(9), low(10)},
		{"pending and pending, debits", api.Pending, api.Pending, 1, 3, 4, under(9), low(9), low(10)},
		{"posted and pending, debits", 0, api.Pending, 1, 3, 4, under(9), low(9), low(10)},
		{"pending and posted, debits", api.Pending, 0, 1, 3, 4, under(9), low(9), low(10)},
		{"a little and much", 0, 0, 1, 3, 4, low(1), under(1), greatest()},
		{"a little that is pending, and much", api.Pending, 0, 1, 3, 4, low(1), under(1), greatest()},
		{"a little, and much that is pending", 0, api.Pending, 1, 3, 4, low(1), under(1), greatest()},
		{"a carry between the halves", 0, 0, 1, 3, 4, api.Num{Hi: 1 << 63}, api.Num{Hi: 1<<63 - 1, Lo: ^uint64(0)}, api.Num{Hi: 1 << 63}},
		{"all, and no more", 0, 0, 1, 3, 4, greatest(), low(0), low(1)},
		{"all that is pending, and no more", api.Pending, 0, 1, 3, 4, greatest(), low(0), low(1)},
	} {
		// The debits' side: one debit, two credits.
		x := opened(t)
		x.one(api.Fine, moveNum(1, c.debit, c.from, c.amount, c.first))
		x.one(api.Overflow, moveNum(2, c.debit, c.to, c.over, c.second))
		x.one(api.Overflow, moveNum(2, c.debit, c.from, c.over, c.second))
		x.one(api.Fine, moveNum(2, c.debit, c.to, c.more, c.second))
		x.one(api.Overflow, moveNum(3, c.debit, c.to, low(1), 0))
		x.one(api.Overflow, moveNum(3, c.debit, c.to, low(1), api.Pending))
		x.one(api.Fine, moveNum(3, c.debit, c.to, low(0), 0))
		// The credits' side: two debits, one credit.
		x = opened(t)
		x.one(api.Fine, moveNum(1, c.from, c.debit, c.amount, c.first))
		x.one(api.Overflow, moveNum(2, c.to, c.debit, c.over, c.second))
		x.one(api.Fine, moveNum(2, c.to, c.debit, c.more, c.second))
		x.one(api.Overflow, moveNum(3, c.to, c.debit, low(1), 0))
		x.one(api.Overflow, moveNum(3, c.to, c.debit, low(1), api.Pending))
		x.one(api.Fine, moveNum(3, c.to, c.debit, low(0), api.Pending))
		// The other way round there is room.
		x.one(api.Fine, moveNum(4, c.debit, c.to, greatest(), 0))
		if t.Failed() {
			t.Fatal(c.name)
		}
	}
}

// It comes ahead of a limit.
func TestOverflowOrder(t *testing.T) {
	x := opened(t)
	x.do([]api.Transfer{move(1, 1, 5, 7, 0), move(2, 5, 1, 5, 0), move(3, 6, 1, 7, 0), move(4, 1, 6, 5, 0)})
	for _, flags := range []int{0, api.Pending} {
		x.one(api.OverCredits, moveNum(9, 5, 2, under(5), flags))
		x.one(api.Overflow, moveNum(9, 5, 2, under(4), flags))
		x.one(api.OverDebits, moveNum(9, 2, 6, under(5), flags))
		x.one(api.Overflow, moveNum(9, 2, 6, under(4), flags))
	}
	x.one(api.Fine, moveNum(9, 1, 2, under(12), 0)) // with 7 and 5
	x.one(api.Overflow, move(10, 1, 6, 3, 0))       // of the debit's sum, and beyond the credit's limit
	x.one(api.OverCredits, move(10, 5, 2, 3, 0))
	x.one(api.Overflow, move(10, 5, 2, 13, 0)) // beyond the debit's limit, and of the credit's sum
}

// What was freed may be taken again.
func TestOverflowFreed(t *testing.T) {
	x := opened(t)
	x.do([]api.Transfer{moveNum(1, 1, 5, greatest(), 0), moveNum(2, 5, 2, under(9), api.Pending)})
	x.one(api.Overflow, moveNum(3, 5, 3, low(10), 0))
	x.one(api.Overflow, moveNum(3, 3, 2, low(10), 0))
	x.one(api.Fine, moveNum(3, 5, 3, low(9), 0))
	x.one(api.Fine, second(4, 2, 10, api.Post))
	x.one(api.Overflow, moveNum(5, 5, 2, under(18), 0))
	x.one(api.Fine, moveNum(5, 5, 2, under(19), 0))
}

func TestDebitLimit(t *testing.T) {
	for _, flags := range []int{0, api.Pending} {
		x := opened(t)
		x.one(api.OverCredits, move(1, 5, 2, 1, flags)) // no credits
		x.one(api.Fine, move(1, 5, 2, 0, flags))
		x.one(api.Fine, hold(2, 1, 5, 100, 0)) // credits that are pending don't count
		x.one(api.OverCredits, move(3, 5, 2, 1, flags))
		x.one(api.Fine, move(3, 1, 5, 9, 0))
		x.one(api.OverCredits, move(4, 5, 2, 10, flags))
		x.one(api.Fine, move(4, 5, 2, 4, flags^api.Pending))
		x.one(api.OverCredits, move(5, 5, 2, 6, flags)) // with what is posted, or pending, already
		x.one(api.Fine, move(5, 5, 2, 5, flags))
		x.one(api.OverCredits, move(6, 5, 2, 1, 0))
		x.one(api.OverCredits, move(6, 5, 2, 1, api.Pending))
		x.one(api.Fine, move(6, 1, 5, 1<<40, 0)) // credits have no limit
		x.one(api.Fine, second(7, 2, 0, api.Post))
	}
}

func TestCreditLimit(t *testing.T) {
	for _, flags := range []int{0, api.Pending} {
		x := opened(t)
		x.one(api.OverDebits, move(1, 2, 6, 1, flags))
		x.one(api.Fine, move(1, 2, 6, 0, flags))
		x.one(api.Fine, hold(2, 6, 1, 100, 0))
		x.one(api.OverDebits, move(3, 2, 6, 1, flags))
		x.one(api.Fine, move(3, 6, 1, 9, 0))
		x.one(api.OverDebits, move(4, 2, 6, 10, flags))
		x.one(api.Fine, move(4, 2, 6, 4, flags^api.Pending))
		x.one(api.OverDebits, move(5, 2, 6, 6, flags))
		x.one(api.Fine, move(5, 2, 6, 5, flags))
		x.one(api.OverDebits, move(6, 2, 6, 1, 0))
		x.one(api.OverDebits, move(6, 2, 6, 1, api.Pending))
		x.one(api.Fine, move(6, 6, 1, 1<<40, 0))
		x.one(api.Fine, second(7, 2, 0, api.Post))
	}
}

// Of both limits at once the debit's comes first.
func TestBothLimits(t *testing.T) {
	x := opened(t)
	x.one(api.OverCredits, move(1, 5, 6, 1, 0))
	x.one(api.Fine, move(1, 1, 5, 9, 0))
	x.one(api.OverDebits, move(2, 5, 6, 1, 0))
	x.one(api.OverCredits, move(2, 5, 6, 10, 0))
	x.one(api.Fine, move(2, 6, 1, 8, 0))
	x.one(api.OverDebits, move(3, 5, 6, 9, 0))
	x.one(api.Fine, move(3, 5, 6, 8, 0))
	x.one(api.Fine, move(4, 6, 5, 7, 0)) // each in the direction that has none
	x.sums(5, low(0), low(8), low(0), low(16))
	x.sums(6, low(0), low(15), low(0), low(8))
}

// What a voided or expired one held is free again within the limit; a part that wasn't posted, too.
func TestLimitFreed(t *testing.T) {
	x := opened(t)
	x.do([]api.Transfer{move(1, 1, 5, 9, 0), hold(2, 5, 1, 9, 0)})
	x.one(api.OverCredits, move(3, 5, 1, 1, 0))
	x.one(api.Fine, second(3, 2, 0, api.Void))
	x.one(api.Fine, hold(4, 5, 1, 9, 1))
	x.one(api.OverCredits, move(5, 5, 1, 1, 0))
	x.tick(1)
	x.one(api.Fine, hold(5, 5, 1, 9, 0))
	x.one(api.Fine, second(6, 5, 3, api.Post))
	x.one(api.OverCredits, move(7, 5, 1, 7, 0))
	x.one(api.Fine, move(7, 5, 1, 6, 0))
}

// A closed account comes ahead of a limit, of a sum, and of a room; it isn't open for either side.
func TestClosed(t *testing.T) {
	x := opened(t)
	x.one(api.Fine, moveNum(1, 5, 6, low(0), api.Pending|api.CloseDebit|api.CloseCredit))
	x.closed(5, true)
	x.closed(6, true)
	x.one(api.DebitClosed, move(2, 5, 6, 1, 0))
	x.one(api.DebitClosed, move(2, 5, 1, 1, api.BalanceDebit))
	x.one(api.CreditClosed, move(2, 1, 6, 1, 0))
	x.one(api.CreditClosed, move(2, 1, 5, 1, api.BalanceCredit))
	x.one(api.DebitClosed, moveNum(2, 6, 1, greatest(), 0))
	x.one(api.DebitClosed, move(2, 6, 5, 0, api.Pending|api.CloseDebit))
	x.one(api.Fine, move(2, 1, 2, 5, 0))
	a, _ := x.e.Account(low(5))
	b, _ := x.e.Account(low(6))
	if a.Flags != api.DebitLimit|api.Closed || b.Flags != api.CreditLimit|api.Closed {
		t.Fatal(a.Flags, b.Flags)
	}
}

// Each closing flag closes its own side; one that isn't done closes nothing.
func TestClosing(t *testing.T) {
	for _, flags := range []int{0, api.CloseDebit, api.CloseCredit, api.CloseDebit | api.CloseCredit} {
		x := opened(t)
		x.one(api.OverCredits, move(1, 5, 2, 1, flags|api.Pending))
		x.closed(5, false)
		x.closed(2, false)
		x.one(api.Fine, move(1, 1, 2, 5, flags|api.Pending))
		x.closed(1, has(flags, api.CloseDebit))
		x.closed(2, has(flags, api.CloseCredit))
		x.closed(3, false)
	}
}
