package rule

import (
	"math"
	"math/big"
	"math/rand"
	"slices"
	"testing"

	"pacioli/api"
)

// Every test here is one of P9.1; that none of these calls panics or goes on for ever is P0.

func low(n uint64) api.Num { return api.Num{Lo: n} }

func high(n uint64) api.Num { return api.Num{Hi: n} }

func greatest() api.Num { return api.Num{Hi: math.MaxUint64, Lo: math.MaxUint64} }

// nums: numbers that part in one word, and at the edges.
func nums() []api.Num {
	return []api.Num{low(0), low(1), low(2), high(1), {Hi: 1, Lo: 1}, low(math.MaxUint64), high(math.MaxUint64), greatest()}
}

// ids: those of nums that an event may have.
func ids() []api.Num { return nums()[1:] }

// ints: numbers that are neither 0 nor what the tests' events have.
func ints() []int {
	return []int{1, 2, 255, math.MaxInt32, math.MaxInt32 + 1, math.MaxInt, -1, -2, math.MinInt32, math.MinInt}
}

// strangers: flags that there are neither of accounts nor of transfers: below 0, and above the greatest flag.
func strangers() []int {
	l := []int{-1, -2, -8, -256, -257, math.MinInt, math.MinInt + 1, math.MinInt + 2, 255 + 256, 512 + 2, math.MaxInt, math.MaxInt - 1}
	for at := 8; at < 63; at++ {
		l = append(l, 1<<at)
	}
	return l
}

// has: are all of some flags among others? It goes flag by flag, so that what is tested isn't its own measure.
func has(flags int, all ...int) bool {
	for _, flag := range all {
		if flags/flag%2 == 0 {
			return false
		}
	}
	return true
}

// count: how many of some flags are among others.
func count(flags int, of ...int) int {
	n := 0
	for _, flag := range of {
		if has(flags, flag) {
			n++
		}
	}
	return n
}

func checkAccount(t *testing.T, a api.Account, want int) {
	t.Helper()
	if got := Account(a); got != want {
		t.Errorf("Account(%+v): %d, want %d", a, got, want)
	}
}

func checkAgain(t *testing.T, a, old api.Account, want int) {
	t.Helper()
	if got := Again(a, old); got != want {
		t.Errorf("Again(%+v, %+v): %d, want %d", a, old, got, want)
	}
}

func checkTransfer(t *testing.T, x api.Transfer, want int) {
	t.Helper()
	if got := Transfer(x); got != want {
		t.Errorf("Transfer(%+v): %d, want %d", x, got, want)
	}
}

func checkRepeat(t *testing.T, x, old api.Transfer, want int) {
	t.Helper()
	if got := Repeat(x, old); got != want {
		t.Errorf("Repeat(%+v, %+v): %d, want %d", x, old, got, want)
	}
}

// goodAccount: one with which nothing is wrong.
func goodAccount() api.Account {
	return api.Account{ID: low(1), Ledger: 3, Flags: api.DebitLimit}
}

// goodTransfer: one with which nothing is wrong, and that has something in all that can part, but what only a second step has.
func goodTransfer() api.Transfer {
	return api.Transfer{ID: low(1), Debit: low(2), Credit: low(3), Amount: low(4), Timeout: 5, Ledger: 6, Flags: api.Pending}
}

// secondTransfer: a second step with which nothing is wrong.
func secondTransfer(flag int) api.Transfer {
	return api.Transfer{ID: low(1), Debit: low(2), Credit: low(3), Amount: low(4), PendingID: low(9), Ledger: 6, Flags: flag}
}

func TestExample(t *testing.T) {
	checkTransfer(t, api.Transfer{ID: low(1), Flags: api.Post | api.Void}, api.FlagsBad)
	checkTransfer(t, api.Transfer{ID: low(1), Flags: api.Post | api.Void, PendingID: low(2)}, api.FlagsBad)
}

func TestAccountFine(t *testing.T) {
	for _, id := range ids() {
		for _, ledger := range ints() {
			for _, flags := range []int{0, api.Linked, api.DebitLimit, api.CreditLimit, api.Linked | api.DebitLimit, api.Linked | api.CreditLimit} {
				checkAccount(t, api.Account{ID: id, Ledger: ledger, Flags: flags}, api.Fine)
			}
		}
	}
}

func TestAccountCodes(t *testing.T) {
	noID, badFlags, bothBad, noLedger := goodAccount(), goodAccount(), goodAccount(), goodAccount()
	noID.ID, badFlags.Flags, bothBad.Flags, noLedger.Ledger = api.Num{}, api.Closed, api.DebitLimit|api.CreditLimit, 0
	checkAccount(t, goodAccount(), api.Fine)
	checkAccount(t, noID, api.IDZero)
	checkAccount(t, badFlags, api.FlagsBad)
	checkAccount(t, bothBad, api.FlagsBad)
	checkAccount(t, noLedger, api.LedgerZero)
}

func TestAccountFirstCode(t *testing.T) {
	checkAccount(t, api.Account{Ledger: 3, Flags: api.Closed}, api.IDZero)
	checkAccount(t, api.Account{Ledger: 3, Flags: api.DebitLimit | api.CreditLimit}, api.IDZero)
	checkAccount(t, api.Account{Ledger: 3, Flags: -1}, api.IDZero)
	checkAccount(t, api.Account{}, api.IDZero)
	checkAccount(t, api.Account{Flags: api.Closed}, api.IDZero)
	checkAccount(t, api.Account{ID: low(1), Flags: api.Closed}, api.FlagsBad)
	checkAccount(t, api.Account{ID: low(1), Flags: api.DebitLimit | api.CreditLimit}, api.FlagsBad)
	checkAccount(t, api.Account{ID: low(1), Flags: math.MinInt}, api.FlagsBad)
}

func TestAccountFlagsAlone(t *testing.T) {
	for flag, want := range map[int]int{0: api.Fine, api.Linked: api.Fine, api.DebitLimit: api.Fine, api.CreditLimit: api.Fine, api.Closed: api.FlagsBad} {
		checkAccount(t, api.Account{ID: low(1), Ledger: 3, Flags: flag}, want)
	}
}

func TestAccountFlags(t *testing.T) {
	for flags := -600; flags <= 600; flags++ {
		want := api.Fine
		if flags < 0 || flags > 7 || has(flags, api.DebitLimit, api.CreditLimit) {
			want = api.FlagsBad
		}
		checkAccount(t, api.Account{ID: low(1), Ledger: 3, Flags: flags}, want)
	}
	for _, flags := range strangers() {
		checkAccount(t, api.Account{ID: low(1), Ledger: 3, Flags: flags}, api.FlagsBad)
		checkAccount(t, api.Account{ID: low(1), Ledger: 3, Flags: flags | api.Linked}, api.FlagsBad)
		checkAccount(t, api.Account{ID: low(1), Ledger: 3, Flags: flags | api.DebitLimit}, api.FlagsBad)
	}
}

// filled: an account with something in all that plays no part in what is wrong by itself, and in what it parts from another one.
func filled(a api.Account) api.Account {
	a.DebitsPending, a.DebitsPosted, a.CreditsPending, a.CreditsPosted = low(5), greatest(), high(6), low(7)
	a.Time, a.Rows, a.Root = -8, 9, api.Hash{10}
	return a
}

func TestAccountOtherFieldsPlayNoPart(t *testing.T) {
	for _, a := range []api.Account{goodAccount(), {Ledger: 3}, {ID: low(1), Ledger: 3, Flags: 6}, {ID: low(1)}} {
		checkAccount(t, filled(a), Account(a))
	}
}

func TestAgainSame(t *testing.T) {
	for _, ledger := range append(ints(), 0) {
		for _, flags := range append(ints(), 0, 2, 4) {
			a := api.Account{ID: low(1), Ledger: ledger, Flags: flags}
			checkAgain(t, a, a, api.Same)
		}
	}
	checkAgain(t, api.Account{}, api.Account{}, api.Same)
}

func TestAgainCodes(t *testing.T) {
	for _, ledger := range []int{0, 1, 2, 4, -3, -1, math.MaxInt, math.MinInt, 3 + 1<<32} {
		for _, flags := range []int{0, api.DebitLimit, api.CreditLimit} {
			a, old := api.Account{ID: low(1), Ledger: ledger, Flags: flags}, api.Account{ID: low(1), Ledger: 3, Flags: flags}
			checkAgain(t, a, old, api.OtherLedger)
			checkAgain(t, old, a, api.OtherLedger)
		}
	}
	for _, flags := range []int{0, api.CreditLimit, api.DebitLimit | api.CreditLimit, api.DebitLimit | 16, api.DebitLimit | 1<<40, -1, math.MinInt, math.MinInt | api.DebitLimit} {
		a, old := goodAccount(), goodAccount()
		a.Flags = flags
		checkAgain(t, a, old, api.OtherFlags)
		checkAgain(t, old, a, api.OtherFlags)
	}
}

func TestAgainFirstCode(t *testing.T) {
	a, old := api.Account{Ledger: 2, Flags: api.CreditLimit}, goodAccount()
	checkAgain(t, a, old, api.OtherLedger)
	checkAgain(t, old, a, api.OtherLedger)
	checkAgain(t, api.Account{}, old, api.OtherLedger)
}

func TestAgainFlags(t *testing.T) {
	for flags := range 32 {
		for other := range 32 {
			a, old := api.Account{ID: low(1), Ledger: 3, Flags: flags}, api.Account{ID: low(1), Ledger: 3, Flags: other}
			want := api.Same
			for _, flag := range []int{api.DebitLimit, api.CreditLimit, 16} {
				if has(flags, flag) != has(other, flag) {
					want = api.OtherFlags
				}
			}
			checkAgain(t, a, old, want)
		}
	}
}

func TestAgainLinkedAndClosedPlayNoPart(t *testing.T) {
	for _, noPart := range []int{api.Linked, api.Closed, api.Linked | api.Closed} {
		for _, flags := range []int{0, api.DebitLimit, api.CreditLimit, api.DebitLimit | api.CreditLimit, 64} {
			a, old := api.Account{ID: low(1), Ledger: 3, Flags: flags}, api.Account{ID: low(1), Ledger: 3, Flags: flags | noPart}
			checkAgain(t, a, old, api.Same)
			checkAgain(t, old, a, api.Same)
			a.Flags ^= api.DebitLimit
			checkAgain(t, a, old, api.OtherFlags)
			checkAgain(t, old, a, api.OtherFlags)
		}
	}
	linked, closed := goodAccount(), goodAccount()
	linked.Flags |= api.Linked
	closed.Flags |= api.Closed
	checkAgain(t, linked, closed, api.Same)
	checkAgain(t, closed, linked, api.Same)
	// With every other bit, of which the highest is the sign.
	checkAgain(t, api.Account{Flags: -1}, api.Account{Flags: -1 - api.Linked - api.Closed}, api.Same)
	checkAgain(t, api.Account{Flags: math.MinInt}, api.Account{Flags: math.MinInt + api.Linked + api.Closed}, api.Same)
	checkAgain(t, api.Account{Flags: math.MinInt + api.Linked + api.Closed}, api.Account{}, api.OtherFlags)
}

func TestAgainOtherFieldsPlayNoPart(t *testing.T) {
	a := goodAccount()
	checkAgain(t, a, filled(a), api.Same)
	checkAgain(t, filled(a), a, api.Same)
	other := a
	other.ID = high(5) // it is asked of those of one number
	checkAgain(t, a, other, api.Same)
	other.Ledger++
	checkAgain(t, filled(a), other, api.OtherLedger)
}

func TestTransferCodes(t *testing.T) {
	checkTransfer(t, goodTransfer(), api.Fine)
	checkTransfer(t, secondTransfer(api.Post), api.Fine)
	checkTransfer(t, secondTransfer(api.Void), api.Fine)
	for _, c := range []struct {
		x    api.Transfer
		want int
	}{
		{api.Transfer{Flags: api.Pending, Timeout: 5}, api.IDZero},
		{api.Transfer{Flags: api.Post, PendingID: low(9)}, api.IDZero},
		{api.Transfer{}, api.IDZero},
		{api.Transfer{ID: low(1), Flags: 256}, api.FlagsBad},
		{api.Transfer{ID: low(1), Flags: -1}, api.FlagsBad},
		{api.Transfer{ID: low(1), Flags: api.Pending | api.Post, PendingID: low(9)}, api.FlagsBad},
		{api.Transfer{ID: low(1), Flags: api.CloseDebit}, api.FlagsBad},
		{api.Transfer{ID: low(1), Flags: api.CloseCredit}, api.FlagsBad},
		{api.Transfer{ID: low(1), Flags: api.Post | api.BalanceDebit, PendingID: low(9)}, api.FlagsBad},
		{api.Transfer{ID: low(1), Flags: api.Void | api.BalanceCredit, PendingID: low(9)}, api.FlagsBad},
		{api.Transfer{ID: low(1), Flags: api.Post}, api.PendingBad},
		{api.Transfer{ID: low(1), PendingID: low(9)}, api.PendingBad},
		{api.Transfer{ID: low(1), Flags: api.Void, PendingID: low(1)}, api.PendingBad},
		{api.Transfer{ID: low(1), Timeout: 5}, api.TimeoutBad},
		{api.Transfer{ID: low(1), Flags: api.Post, PendingID: low(9), Timeout: 5}, api.TimeoutBad},
	} {
		checkTransfer(t, c.x, c.want)
	}
}

func TestTransferFirstCode(t *testing.T) {
	for _, c := range []struct {
		x    api.Transfer
		want int
	}{
		{api.Transfer{Flags: -1}, api.IDZero},
		{api.Transfer{Flags: api.Pending | api.Void}, api.IDZero},
		{api.Transfer{Flags: api.CloseDebit}, api.IDZero},
		{api.Transfer{Flags: api.Post}, api.IDZero},
		{api.Transfer{PendingID: low(9)}, api.IDZero},
		{api.Transfer{Timeout: 5}, api.IDZero},
		{api.Transfer{Flags: 256, PendingID: low(9), Timeout: 5}, api.IDZero},
		{api.Transfer{ID: low(1), Flags: api.Post | api.Void}, api.FlagsBad},
		{api.Transfer{ID: low(1), Flags: api.CloseCredit, PendingID: low(9)}, api.FlagsBad},
		{api.Transfer{ID: low(1), Flags: api.Post | api.BalanceCredit, PendingID: low(1)}, api.FlagsBad},
		{api.Transfer{ID: low(1), Flags: 256, PendingID: low(9)}, api.FlagsBad},
		{api.Transfer{ID: low(1), Flags: api.CloseDebit, Timeout: 5}, api.FlagsBad},
		{api.Transfer{ID: low(1), Flags: 256, Timeout: 5}, api.FlagsBad},
		{api.Transfer{ID: low(1), Flags: api.Post | api.Void, Timeout: 5}, api.FlagsBad},
		{api.Transfer{ID: low(1), Flags: api.Post, Timeout: 5}, api.PendingBad},
		{api.Transfer{ID: low(1), PendingID: low(9), Timeout: 5}, api.PendingBad},
		{api.Transfer{ID: low(1), Flags: api.Void, PendingID: low(1), Timeout: 5}, api.PendingBad},
	} {
		checkTransfer(t, c.x, c.want)
	}
}

// withPending: a transfer of these flags, with the PendingID that they ask for.
func withPending(flags int) api.Transfer {
	x := api.Transfer{ID: low(1), Flags: flags}
	if count(flags, api.Post, api.Void) > 0 {
		x.PendingID = low(9)
	}
	return x
}

func TestTransferFlagsAlone(t *testing.T) {
	for flag, want := range map[int]int{
		0: api.Fine, api.Linked: api.Fine, api.Pending: api.Fine, api.Post: api.Fine, api.Void: api.Fine,
		api.BalanceDebit: api.Fine, api.BalanceCredit: api.Fine, api.CloseDebit: api.FlagsBad, api.CloseCredit: api.FlagsBad,
	} {
		checkTransfer(t, withPending(flag), want)
	}
}

// Of each two flags: fine are those that may stand together.
func TestTransferFlagsByTwo(t *testing.T) {
	fine := []int{
		api.Linked | api.Pending, api.Linked | api.Post, api.Linked | api.Void, api.Linked | api.BalanceDebit, api.Linked | api.BalanceCredit,
		api.Pending | api.BalanceDebit, api.Pending | api.BalanceCredit, api.Pending | api.CloseDebit, api.Pending | api.CloseCredit,
		api.BalanceDebit | api.BalanceCredit,
	}
	for first := range 8 {
		for second := range first {
			flags, want := 1<<first|1<<second, api.FlagsBad
			if slices.Contains(fine, flags) {
				want = api.Fine
			}
			checkTransfer(t, withPending(flags), want)
		}
	}
}

func TestTransferFlagsAtTheEnds(t *testing.T) {
	for _, flags := range append(strangers(), 255, 256, 256+1, 256+2, 254, 1<<8|api.Pending, 1<<16|api.Pending) {
		for _, pending := range []api.Num{{}, low(1), low(9)} {
			checkTransfer(t, api.Transfer{ID: low(1), Flags: flags, PendingID: pending}, api.FlagsBad)
		}
	}
	// As many as may stand together.
	checkTransfer(t, api.Transfer{ID: low(1), Flags: 255 - api.Post - api.Void}, api.Fine)
	checkTransfer(t, api.Transfer{ID: low(1), Flags: 255 - api.Post}, api.FlagsBad)
	checkTransfer(t, api.Transfer{ID: low(1), Flags: 255 - api.Void}, api.FlagsBad)
	checkTransfer(t, api.Transfer{ID: low(1), Flags: 255 - api.Post - api.Void - api.Pending}, api.FlagsBad)
	checkTransfer(t, withPending(api.Pending|api.Post|api.Void), api.FlagsBad)
}

func TestTransferPendingID(t *testing.T) {
	for _, own := range ids() {
		for _, pending := range nums() {
			second, other := api.Fine, api.PendingBad
			switch pending {
			case api.Num{}:
				second, other = api.PendingBad, api.Fine
			case own:
				second = api.PendingBad
			}
			for _, flags := range []int{0, api.Linked, api.Pending, api.BalanceDebit, api.Pending | api.CloseCredit} {
				checkTransfer(t, api.Transfer{ID: own, PendingID: pending, Flags: flags}, other)
			}
			for _, flags := range []int{api.Post, api.Void, api.Linked | api.Post, api.Linked | api.Void} {
				checkTransfer(t, api.Transfer{ID: own, PendingID: pending, Flags: flags}, second)
			}
		}
	}
}

func TestTransferTimeout(t *testing.T) {
	for _, timeout := range append(ints(), 0) {
		without := api.Fine
		if timeout != 0 {
			without = api.TimeoutBad
		}
		for _, flags := range []int{0, api.Linked, api.Post, api.Void, api.BalanceDebit, api.BalanceCredit} {
			x := withPending(flags)
			x.Timeout = timeout
			checkTransfer(t, x, without)
		}
		for _, flags := range []int{0, api.Linked, api.BalanceDebit, api.BalanceCredit, api.CloseDebit, api.CloseCredit} {
			checkTransfer(t, api.Transfer{ID: low(1), Flags: api.Pending | flags, Timeout: timeout}, api.Fine)
		}
	}
}

// ofTransfer: the chapter's words, each for itself: what of them holds of a transfer.
func ofTransfer(x api.Transfer) map[int]bool {
	f := x.Flags
	second := f >= 0 && count(f, api.Post, api.Void) > 0
	pending := f >= 0 && has(f, api.Pending)
	steps := f < 0 || count(f, api.Pending, api.Post, api.Void) > 1
	closes := f < 0 || count(f, api.CloseDebit, api.CloseCredit) > 0 && !pending
	balances := f < 0 || count(f, api.BalanceDebit, api.BalanceCredit) > 0 && second
	return map[int]bool{
		api.IDZero:     x.ID == low(0),
		api.FlagsBad:   f < 0 || f > 255 || steps || closes || balances,
		api.PendingBad: second && (x.PendingID == low(0) || x.PendingID == x.ID) || !second && x.PendingID != low(0),
		api.TimeoutBad: x.Timeout != 0 && !pending,
	}
}

// first: the first code that holds; else another one.
func first(holds map[int]bool, otherwise int, order ...int) int {
	for _, code := range order {
		if holds[code] {
			return code
		}
	}
	return otherwise
}

// All flags that there are, and some around, with what else plays a part, against the words.
func TestTransferAll(t *testing.T) {
	for flags := -300; flags <= 600; flags++ {
		for _, id := range []api.Num{low(0), low(1), high(1)} {
			for _, pending := range []api.Num{low(0), low(1), high(1), low(9)} {
				for _, timeout := range []int{0, 1, -1, math.MaxInt, math.MinInt} {
					x := api.Transfer{ID: id, PendingID: pending, Timeout: timeout, Flags: flags}
					checkTransfer(t, x, first(ofTransfer(x), api.Fine, api.IDZero, api.FlagsBad, api.PendingBad, api.TimeoutBad))
				}
			}
		}
	}
}

// What another layer looks at: whether the accounts are there, are two, and of that ledger.
func TestTransferOtherFieldsPlayNoPart(t *testing.T) {
	for _, flags := range []int{0, api.Pending, api.Post, api.Void, api.CloseDebit, 256} {
		plain := withPending(flags)
		x := plain
		x.Debit, x.Credit, x.Amount = high(3), high(3), greatest()
		x.Ledger, x.Time, x.Tick, x.State = -1, 7, 8, api.Expired
		checkTransfer(t, x, Transfer(plain))
		x.Debit, x.Credit, x.State = x.ID, x.PendingID, -5
		checkTransfer(t, x, Transfer(plain))
	}
}

// A parting makes a transfer part from another one in one thing, by which it has a code.
type parting struct {
	code int
	by   func(*api.Transfer)
}

// partings: one of each code of Repeat, in order.
func partings() []parting {
	return []parting{
		{api.OtherFlags, func(x *api.Transfer) { x.Flags ^= api.BalanceDebit }},
		{api.OtherDebit, func(x *api.Transfer) { x.Debit.Lo ^= 64 }},
		{api.OtherCredit, func(x *api.Transfer) { x.Credit.Lo ^= 64 }},
		{api.OtherAmount, func(x *api.Transfer) { x.Amount.Lo ^= 64 }},
		{api.OtherPending, func(x *api.Transfer) { x.PendingID.Lo ^= 64 }},
		{api.OtherTimeout, func(x *api.Transfer) { x.Timeout ^= 64 }},
		{api.OtherLedger, func(x *api.Transfer) { x.Ledger ^= 64 }},
	}
}

// bases: transfers that others part from.
func bases() []api.Transfer {
	return []api.Transfer{{}, goodTransfer(), secondTransfer(api.Post), secondTransfer(api.Void | api.Linked), {ID: low(1), Flags: -1, Timeout: -1, Ledger: -1}}
}

func TestRepeatSame(t *testing.T) {
	for _, old := range bases() {
		checkRepeat(t, old, old, api.Same)
	}
}

// Each set of partings: the first one's code is told, from either side.
func TestRepeatFirstCode(t *testing.T) {
	for set := range 1 << len(partings()) {
		for _, old := range bases() {
			x, want := old, api.Same
			for i, p := range slices.Backward(partings()) {
				if set>>i&1 == 1 {
					p.by(&x)
					want = p.code
				}
			}
			checkRepeat(t, x, old, want)
			checkRepeat(t, old, x, want)
		}
	}
}

func TestRepeatNumbers(t *testing.T) {
	fields := []struct {
		code int
		of   func(*api.Transfer) *api.Num
	}{
		{api.OtherDebit, func(x *api.Transfer) *api.Num { return &x.Debit }},
		{api.OtherCredit, func(x *api.Transfer) *api.Num { return &x.Credit }},
		{api.OtherAmount, func(x *api.Transfer) *api.Num { return &x.Amount }},
		{api.OtherPending, func(x *api.Transfer) *api.Num { return &x.PendingID }},
	}
	for _, field := range fields {
		for _, a := range nums() {
			for _, b := range nums() {
				x, old, want := goodTransfer(), goodTransfer(), field.code
				*field.of(&x), *field.of(&old) = a, b
				if a == b {
					want = api.Same
				}
				checkRepeat(t, x, old, want)
			}
		}
	}
}

func TestRepeatInts(t *testing.T) {
	for _, a := range append(ints(), 0) {
		for _, b := range append(ints(), 0) {
			timeout, ledger := api.OtherTimeout, api.OtherLedger
			if a == b {
				timeout, ledger = api.Same, api.Same
			}
			x, old := goodTransfer(), goodTransfer()
			x.Timeout, old.Timeout = a, b
			checkRepeat(t, x, old, timeout)
			x, old = goodTransfer(), goodTransfer()
			x.Ledger, old.Ledger = a, b
			checkRepeat(t, x, old, ledger)
		}
	}
}

func TestRepeatFlags(t *testing.T) {
	for flags := range 512 {
		for _, old := range []int{0, 1, 2, 3, 8, 254, 255, 256, 257, 511, flags, flags ^ 1, flags ^ 2, flags ^ 128, flags ^ 256} {
			want := api.OtherFlags
			if flags/2 == old/2 { // Linked is the lowest one
				want = api.Same
			}
			checkRepeat(t, api.Transfer{ID: low(1), Flags: flags}, api.Transfer{ID: low(1), Flags: old}, want)
		}
	}
	for _, flags := range strangers() {
		checkRepeat(t, api.Transfer{Flags: flags}, api.Transfer{}, api.OtherFlags)
		checkRepeat(t, api.Transfer{}, api.Transfer{Flags: flags}, api.OtherFlags)
	}
}

func TestRepeatLinkedPlaysNoPart(t *testing.T) {
	for _, old := range append(bases(), api.Transfer{Flags: math.MinInt}, api.Transfer{Flags: math.MaxInt}) {
		x := old
		x.Flags ^= api.Linked
		checkRepeat(t, x, old, api.Same)
		for _, p := range partings() {
			y := x
			p.by(&y)
			checkRepeat(t, y, old, p.code)
			checkRepeat(t, old, y, p.code)
		}
	}
	// Of a transfer, Void has the number that Closed has of an account: it plays its part.
	checkRepeat(t, api.Transfer{Flags: api.Void}, api.Transfer{}, api.OtherFlags)
}

func TestRepeatOtherFieldsPlayNoPart(t *testing.T) {
	for _, old := range bases() {
		x := old
		x.ID, x.Time, x.Tick, x.State = high(77), 7, 8, api.Done // it is asked of those of one number
		checkRepeat(t, x, old, api.Same)
		checkRepeat(t, old, x, api.Same)
		for _, p := range partings() {
			y := x
			p.by(&y)
			checkRepeat(t, y, old, p.code)
		}
	}
}

// toBig works from the words alone, so that what is tested isn't its own measure.
func toBig(a api.Num) *big.Int {
	n := new(big.Int).SetUint64(a.Hi)
	return n.Lsh(n, 64).Or(n, new(big.Int).SetUint64(a.Lo))
}

// rest: what two numbers leave of one, below 0 if they are more.
func rest(of, pending, posted api.Num) *big.Int {
	n := new(big.Int).Sub(toBig(of), toBig(pending))
	return n.Sub(n, toBig(posted))
}

// rests: what a debit has left, and a credit.
func rests(a api.Account) (debit, credit *big.Int) {
	return rest(a.CreditsPosted, a.DebitsPending, a.DebitsPosted), rest(a.DebitsPosted, a.CreditsPending, a.CreditsPosted)
}

// checkRoom holds both rooms of an account against big numbers.
func checkRoom(t *testing.T, a api.Account) {
	t.Helper()
	debit, credit := rests(a)
	for _, c := range []struct {
		debit bool
		want  *big.Int
	}{{true, debit}, {false, credit}} {
		want := c.want
		if want.Sign() < 0 {
			want = new(big.Int)
		}
		if got := Room(a, c.debit); toBig(got).Cmp(want) != 0 {
			t.Errorf("Room(%+v, %v): %v, want %v", a, c.debit, got, want)
		}
	}
}

// checkWithin holds an account against big numbers, with each limit.
func checkWithin(t *testing.T, a api.Account) {
	t.Helper()
	debit, credit := rests(a)
	for _, others := range []int{0, api.Linked, api.Closed, 1 << 40, math.MinInt} { // they play no part
		for limits, want := range map[int]bool{
			0:                                true,
			api.DebitLimit:                   debit.Sign() >= 0,
			api.CreditLimit:                  credit.Sign() >= 0,
			api.DebitLimit | api.CreditLimit: debit.Sign() >= 0 && credit.Sign() >= 0,
		} {
			a.Flags = limits | others
			if got := Within(a); got != want {
				t.Errorf("Within(%+v): %v", a, got)
			}
		}
	}
}

// sums: one side's pending and posted ones, the other side's posted one, and what that leaves; within is false: it is less.
type sums struct {
	pending, posted, of, left api.Num
	within                    bool
}

func cases() []sums {
	most := greatest()
	almost := api.Num{Hi: math.MaxUint64, Lo: math.MaxUint64 - 1}
	half := high(1 << 63)
	return []sums{
		{low(0), low(0), low(0), low(0), true},
		{low(3), low(4), low(9), low(2), true},
		{low(0), low(4), low(9), low(5), true},
		{low(3), low(0), low(9), low(6), true},
		{low(0), low(0), low(9), low(9), true},
		{low(3), low(4), low(8), low(1), true},
		{low(3), low(4), low(7), low(0), true}, // just as much
		{low(3), low(4), low(6), low(0), false},
		{low(3), low(4), low(0), low(0), false},
		{low(0), low(1), low(0), low(0), false},
		{low(1), low(0), low(0), low(0), false},
		{low(5), low(5), low(5), low(0), false}, // each alone is no more
		{low(1), low(math.MaxUint64), high(1), low(0), true},
		{low(2), low(math.MaxUint64), high(1), low(0), false},
		{low(0), low(1), high(1), low(math.MaxUint64), true},
		{high(1), low(5), low(9), low(0), false},
		{low(0), low(0), most, most, true},
		{low(1), low(0), most, almost, true},
		{most, low(0), most, low(0), true},
		{low(0), most, most, low(0), true},
		{low(1), almost, most, low(0), true},
		{half, api.Num{Hi: 1<<63 - 1, Lo: math.MaxUint64}, most, low(0), true},
		{low(0), most, almost, low(0), false},
		{most, low(1), most, low(0), false}, // 2^128: its lowest 128 bits are 0
		{low(1), most, most, low(0), false},
		{half, half, most, low(0), false},
		{half, half, low(0), low(0), false},
		{most, low(2), low(9), low(0), false},
		{most, most, most, low(0), false},
		{almost, low(5), low(3), low(0), false}, // its lowest 128 bits are 3
	}
}

func TestRoom(t *testing.T) {
	for _, c := range cases() {
		debit := api.Account{DebitsPending: c.pending, DebitsPosted: c.posted, CreditsPosted: c.of}
		if got := Room(debit, true); got != c.left {
			t.Errorf("Room(%+v, true): %v, want %v", debit, got, c.left)
		}
		credit := api.Account{CreditsPending: c.pending, CreditsPosted: c.posted, DebitsPosted: c.of}
		if got := Room(credit, false); got != c.left {
			t.Errorf("Room(%+v, false): %v, want %v", credit, got, c.left)
		}
		checkRoom(t, debit)
		checkRoom(t, credit)
	}
}

func TestWithin(t *testing.T) {
	for _, c := range cases() {
		debit := api.Account{Flags: api.DebitLimit, DebitsPending: c.pending, DebitsPosted: c.posted, CreditsPosted: c.of}
		if got := Within(debit); got != c.within {
			t.Errorf("Within(%+v): %v", debit, got)
		}
		credit := api.Account{Flags: api.CreditLimit, CreditsPending: c.pending, CreditsPosted: c.posted, DebitsPosted: c.of}
		if got := Within(credit); got != c.within {
			t.Errorf("Within(%+v): %v", credit, got)
		}
		checkWithin(t, debit)
		checkWithin(t, credit)
	}
}

// With both limits an account is within both only if both sides' posted sums are alike, and nothing is pending.
func TestWithinBothLimits(t *testing.T) {
	both := api.DebitLimit | api.CreditLimit
	for _, c := range []struct {
		a    api.Account
		want bool
	}{
		{api.Account{Flags: both}, true},
		{api.Account{Flags: both, DebitsPosted: low(7), CreditsPosted: low(7)}, true},
		{api.Account{Flags: both, DebitsPosted: greatest(), CreditsPosted: greatest()}, true},
		{api.Account{Flags: both, DebitsPosted: low(8), CreditsPosted: low(7)}, false},
		{api.Account{Flags: both, DebitsPosted: low(7), CreditsPosted: low(8)}, false},
		{api.Account{Flags: both, DebitsPending: low(1), DebitsPosted: low(7), CreditsPosted: low(7)}, false},
		{api.Account{Flags: both, CreditsPending: low(1), DebitsPosted: low(7), CreditsPosted: low(7)}, false},
	} {
		if got := Within(c.a); got != c.want {
			t.Errorf("Within(%+v): %v", c.a, got)
		}
	}
}

// Who is over without a limit is within it, and has no room.
func TestOverWithoutLimit(t *testing.T) {
	for _, flags := range []int{0, api.Linked, api.Closed, api.CreditLimit} {
		a := api.Account{Flags: flags, DebitsPosted: low(9)}
		if !Within(a) || Room(a, true) != low(0) || Room(a, false) != low(9) {
			t.Errorf("%+v: %v, %v, %v", a, Within(a), Room(a, true), Room(a, false))
		}
	}
}

// The other side's pending sum plays no part, and for Room neither do flags, nor all that isn't a sum.
func TestRoomAndWithinOtherFieldsPlayNoPart(t *testing.T) {
	for _, flags := range []int{0, 2, 4, 6, 8, -1, math.MinInt} {
		a := api.Account{ID: high(3), Ledger: -1, Flags: flags, Time: 5, Rows: -6, Root: api.Hash{7}}
		a.DebitsPending, a.DebitsPosted, a.CreditsPosted = low(1), low(2), low(9)
		for _, other := range nums() {
			a.CreditsPending = other
			if got := Room(a, true); got != low(6) {
				t.Errorf("Room(%+v, true): %v", a, got)
			}
		}
		a.CreditsPending, a.CreditsPosted, a.DebitsPosted = low(1), low(2), low(9)
		for _, other := range nums() {
			a.DebitsPending = other
			if got := Room(a, false); got != low(6) {
				t.Errorf("Room(%+v, false): %v", a, got)
			}
		}
	}
	for _, other := range nums() {
		debit := api.Account{Flags: api.DebitLimit, DebitsPosted: low(2), CreditsPosted: low(2), CreditsPending: other, Ledger: -1}
		credit := api.Account{Flags: api.CreditLimit, DebitsPosted: low(2), CreditsPosted: low(2), DebitsPending: other, Time: -1}
		if !Within(debit) || !Within(credit) {
			t.Errorf("%+v: %v; %+v: %v", debit, Within(debit), credit, Within(credit))
		}
	}
}

// All sums at the edges, and others, always the same, against big numbers.
func TestRoomAndWithinAll(t *testing.T) {
	for _, debitsPending := range nums() {
		for _, debitsPosted := range nums() {
			for _, creditsPending := range nums() {
				for _, creditsPosted := range nums() {
					a := api.Account{DebitsPending: debitsPending, DebitsPosted: debitsPosted, CreditsPending: creditsPending, CreditsPosted: creditsPosted}
					checkRoom(t, a)
					checkWithin(t, a)
				}
			}
		}
	}
	r := rand.New(rand.NewSource(9))
	some := func() api.Num { return api.Num{Hi: r.Uint64() >> r.Intn(65), Lo: r.Uint64() >> r.Intn(65)} }
	for range 3000 {
		a := api.Account{DebitsPending: some(), DebitsPosted: some(), CreditsPending: some(), CreditsPosted: some()}
		checkRoom(t, a)
		checkWithin(t, a)
	}
}
