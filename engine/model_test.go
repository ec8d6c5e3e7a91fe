package engine

import (
	"math"
	"math/big"
	"slices"
	"testing"

	"pacioli/api"
	"pacioli/rows"
	"pacioli/rule"
)

// Here the chapter's words are told once more, another way: sums are added up anew from all transfers by their states, in big numbers, and a chain is tried on a model of its own.

func low(n uint64) api.Num { return api.Num{Lo: n} }

func greatest() api.Num { return api.Num{Hi: math.MaxUint64, Lo: math.MaxUint64} }

// under: so much less than 2^128 - 1.
func under(n uint64) api.Num { return api.Num{Hi: math.MaxUint64, Lo: math.MaxUint64 - n} }

func bigOf(n api.Num) *big.Int {
	x := new(big.Int).SetUint64(n.Hi)
	return x.Lsh(x, 64).Or(x, new(big.Int).SetUint64(n.Lo))
}

func numOf(x *big.Int) api.Num {
	low := new(big.Int).And(x, new(big.Int).SetUint64(math.MaxUint64))
	return api.Num{Hi: new(big.Int).Rsh(x, 64).Uint64(), Lo: low.Uint64()}
}

func together(l ...api.Num) *big.Int {
	sum := new(big.Int)
	for _, n := range l {
		sum.Add(sum, bigOf(n))
	}
	return sum
}

func isNum(x *big.Int) bool { return x.Sign() >= 0 && x.BitLen() <= 128 }

// has: is a flag among others? It goes without masks, so that what is tested isn't its own measure.
func has(flags, flag int) bool { return flags/flag%2 != 0 }

// An entry is a transfer that was made: what it moved or holds, and whose accounts it has.
type entry struct {
	api.Transfer
	amount        *big.Int
	debit, credit api.Num
}

// A model is what there should be.
type model struct {
	accounts  []api.Account // as they were made: their sums aren't kept
	entries   []entry
	rows      map[api.Num][]api.Row
	time, now int
}

func newModel() *model { return &model{rows: map[api.Num][]api.Row{}} }

func (m *model) clone() *model {
	c := &model{accounts: slices.Clone(m.accounts), entries: slices.Clone(m.entries), rows: map[api.Num][]api.Row{}, time: m.time, now: m.now}
	for id, l := range m.rows {
		c.rows[id] = slices.Clone(l)
	}
	return c
}

// A side is what is pending, and what is posted.
type side struct{ pending, posted *big.Int }

func (s side) both() *big.Int { return new(big.Int).Add(s.pending, s.posted) }

// add: what an entry lays on a side.
func (s side) add(e entry) {
	switch {
	case has(e.Flags, api.Void):
	case !has(e.Flags, api.Pending):
		s.posted.Add(s.posted, e.amount)
	case e.State == api.Waiting:
		s.pending.Add(s.pending, e.amount)
	}
}

// sides: an account's debits and credits, added up from all that was made.
func (m *model) sides(id api.Num) (side, side) {
	debits, credits := side{new(big.Int), new(big.Int)}, side{new(big.Int), new(big.Int)}
	for _, e := range m.entries {
		if e.debit == id {
			debits.add(e)
		}
		if e.credit == id {
			credits.add(e)
		}
	}
	return debits, credits
}

// closed: is there a transfer that closed an account, and neither was voided nor expired?
func (m *model) closed(id api.Num) bool {
	for _, e := range m.entries {
		if e.State != api.Waiting && e.State != api.Done {
			continue
		}
		if has(e.Flags, api.CloseDebit) && e.debit == id || has(e.Flags, api.CloseCredit) && e.credit == id {
			return true
		}
	}
	return false
}

func (m *model) made(id api.Num) (api.Account, bool) {
	for _, a := range m.accounts {
		if a.ID == id {
			return a, true
		}
	}
	return api.Account{}, false
}

func (m *model) entry(id api.Num) (int, bool) {
	for i, e := range m.entries {
		if e.ID == id {
			return i, true
		}
	}
	return 0, false
}

func (m *model) list(id api.Num) *rows.List {
	x := &rows.List{}
	for _, r := range m.rows[id] {
		x.Add(r)
	}
	return x
}

// account: one, whole.
func (m *model) account(id api.Num) (api.Account, bool) {
	a, ok := m.made(id)
	if !ok {
		return api.Account{}, false
	}
	debits, credits := m.sides(id)
	a.DebitsPending, a.DebitsPosted = numOf(debits.pending), numOf(debits.posted)
	a.CreditsPending, a.CreditsPosted = numOf(credits.pending), numOf(credits.posted)
	if m.closed(id) {
		a.Flags += api.Closed
	}
	a.Rows, a.Root = len(m.rows[id]), m.list(id).Root(nil)
	return a, true
}

func (m *model) apply(q api.Request) ([]api.Result, api.Errno) {
	switch {
	case q.Kind == api.MakeAccounts:
		var flags []int
		for _, a := range q.Accounts {
			flags = append(flags, a.Flags)
		}
		return m.batch(flags, func(m *model, i int) int { return m.makeAccount(q.Accounts[i]) }), api.OK
	case q.Kind == api.MakeTransfers:
		var flags []int
		for _, t := range q.Transfers {
			flags = append(flags, t.Flags)
		}
		return m.batch(flags, func(m *model, i int) int { return m.makeTransfer(q.Transfers[i]) }), api.OK
	case q.Kind == api.Tick && q.From > m.now:
		m.tick(q.From)
		return nil, api.OK
	}
	return nil, api.ErrBad
}

// batch cuts events into chains; each is tried on a clone.
func (m *model) batch(flags []int, do func(m *model, i int) int) []api.Result {
	var out []api.Result
	for from := 0; from < len(flags); {
		to := from + 1
		for to < len(flags) && has(flags[to-1], api.Linked) {
			to++
		}
		trial, codes, fine := m.clone(), make([]int, to-from), true
		for i := from; i < to && fine; i++ {
			codes[i-from] = do(trial, i)
			fine = codes[i-from] == api.Fine
		}
		if fine && has(flags[to-1], api.Linked) {
			codes[to-from-1], fine = api.LinkOpen, false
		}
		if fine {
			*m = *trial
		} else {
			for i, code := range codes {
				out = append(out, api.Result{At: from + i, Code: max(code, api.LinkFailed)})
			}
		}
		from = to
	}
	return out
}

func (m *model) makeAccount(a api.Account) int {
	if code := rule.Account(a); code != api.Fine {
		return code
	}
	if old, ok := m.account(a.ID); ok {
		return rule.Again(a, old)
	}
	if len(m.accounts) == 32 {
		return api.Table
	}
	m.time++
	flags := a.Flags
	if has(flags, api.Linked) {
		flags--
	}
	m.accounts = append(m.accounts, api.Account{ID: a.ID, Ledger: a.Ledger, Flags: flags, Time: m.time})
	return api.Fine
}

func (m *model) makeTransfer(t api.Transfer) int {
	if code := rule.Transfer(t); code != api.Fine {
		return code
	}
	if i, ok := m.entry(t.ID); ok {
		return rule.Repeat(t, m.entries[i].Transfer)
	}
	if len(m.entries) == 256 {
		return api.Table
	}
	if has(t.Flags, api.Post) || has(t.Flags, api.Void) {
		return m.second(t)
	}
	return m.first(t)
}

func (m *model) first(t api.Transfer) int {
	debit, hasDebit := m.account(t.Debit)
	credit, hasCredit := m.account(t.Credit)
	switch {
	case !hasDebit:
		return api.NoDebit
	case !hasCredit, t.Debit == t.Credit:
		return api.NoCredit
	case debit.Ledger != t.Ledger, credit.Ledger != t.Ledger:
		return api.LedgerBad
	case has(debit.Flags, api.Closed):
		return api.DebitClosed
	case has(credit.Flags, api.Closed):
		return api.CreditClosed
	}
	e := entry{Transfer: t, amount: m.amount(t), debit: t.Debit, credit: t.Credit}
	e.State = api.Posted
	if has(t.Flags, api.Pending) {
		e.State = api.Waiting
	}
	trial := m.clone()
	trial.entries = append(trial.entries, e)
	debits, itsCredits := trial.sides(t.Debit)
	itsDebits, credits := trial.sides(t.Credit)
	switch {
	case !isNum(debits.both()), !isNum(credits.both()):
		return api.Overflow
	case has(debit.Flags, api.DebitLimit) && debits.both().Cmp(itsCredits.posted) > 0:
		return api.OverCredits
	case has(credit.Flags, api.CreditLimit) && credits.both().Cmp(itsDebits.posted) > 0:
		return api.OverDebits
	}
	m.add(e)
	return api.Fine
}

// amount: of a first step.
func (m *model) amount(t api.Transfer) *big.Int {
	amount := bigOf(t.Amount)
	debit, credit := has(t.Flags, api.BalanceDebit), has(t.Flags, api.BalanceCredit)
	if amount.Sign() == 0 && (debit || credit) {
		amount = bigOf(greatest())
	}
	cut := func(from, by *big.Int) {
		room := new(big.Int).Sub(from, by)
		if room.Sign() < 0 {
			room = new(big.Int)
		}
		if room.Cmp(amount) < 0 {
			amount = room
		}
	}
	if debit {
		debits, credits := m.sides(t.Debit)
		cut(credits.posted, debits.both())
	}
	if credit {
		debits, credits := m.sides(t.Credit)
		cut(debits.posted, credits.both())
	}
	return amount
}

func (m *model) second(t api.Transfer) int {
	at, ok := m.entry(t.PendingID)
	if !ok {
		return api.NoPending
	}
	p := m.entries[at]
	other := func(n, its api.Num) bool { return n != api.Num{} && n != its }
	switch {
	case !has(p.Flags, api.Pending):
		return api.NotPending
	case p.State == api.Done, p.State == api.Voided:
		return api.DonePending
	case p.State == api.Expired:
		return api.GonePending
	case other(t.Debit, p.Debit), other(t.Credit, p.Credit), t.Ledger != 0 && t.Ledger != p.Ledger:
		return api.OtherParty
	}
	amount := bigOf(t.Amount)
	if amount.Sign() == 0 {
		amount = p.amount
	}
	void := has(t.Flags, api.Void)
	if more := amount.Cmp(p.amount); more > 0 || void && more != 0 {
		return api.TooMuch
	}
	m.entries[at].State = api.Done
	if void {
		m.entries[at].State = api.Voided
	}
	m.add(entry{Transfer: t, amount: amount, debit: p.debit, credit: p.credit})
	return api.Fine
}

// add: an entry more, with its rows.
func (m *model) add(e entry) {
	e.Time, e.Tick = m.time+1, m.now
	if has(e.Flags, api.Post) || has(e.Flags, api.Void) {
		e.State = api.Posted
	}
	m.entries = append(m.entries, e)
	flags := e.Flags
	if has(flags, api.Linked) {
		flags--
	}
	m.addRows(e, flags)
}

func (m *model) addRows(e entry, event int) {
	m.time++
	for _, id := range []api.Num{e.debit, e.credit} {
		debits, credits := m.sides(id)
		m.rows[id] = append(m.rows[id], api.Row{
			Transfer: e.ID, Time: m.time, Event: event, Amount: numOf(e.amount),
			DebitsPending: numOf(debits.pending), DebitsPosted: numOf(debits.posted),
			CreditsPending: numOf(credits.pending), CreditsPosted: numOf(credits.posted),
		})
	}
}

func (m *model) tick(now int) {
	for i, e := range m.entries {
		end := new(big.Int).Add(big.NewInt(int64(e.Tick)), big.NewInt(int64(e.Timeout)))
		if e.State == api.Waiting && e.Timeout > 0 && end.Cmp(big.NewInt(int64(now))) <= 0 {
			m.entries[i].State = api.Expired
			m.addRows(e, -1)
		}
	}
	m.now = now
}

// A twin is an engine and the model that it should be like.
type twin struct {
	t *testing.T
	e *Engine
	m *model
}

func newTwin(t *testing.T) *twin { return &twin{t, New(), newModel()} }

func (x *twin) copy() *twin { return &twin{x.t, x.e.Copy(), x.m.clone()} }

// apply: a request on both; they answer alike, and are alike behind it.
func (x *twin) apply(q api.Request) ([]api.Result, api.Errno) {
	x.t.Helper()
	got, err := x.e.Apply(q)
	want, wantErr := x.m.apply(q)
	if err != wantErr || !slices.Equal(got, want) {
		x.t.Fatalf("Apply(%+v): %v, %v; want %v, %v", q, got, err, want, wantErr)
	}
	x.check()
	return got, err
}

// check: is an engine like its model, whatever it is asked?
func (x *twin) check() {
	x.t.Helper()
	if x.e.Now() != x.m.now {
		x.t.Fatal("Now:", x.e.Now(), "want", x.m.now)
	}
	var all []api.Account
	for _, a := range x.m.accounts {
		whole, _ := x.m.account(a.ID)
		all = append(all, whole)
		x.checkAccount(whole)
	}
	slices.SortFunc(all, func(a, b api.Account) int { return bigOf(a.ID).Cmp(bigOf(b.ID)) })
	got := x.e.Accounts()
	if !slices.Equal(got, all) {
		x.t.Fatalf("Accounts: %+v, want %+v", got, all)
	}
	for _, e := range x.m.entries {
		if got, ok := x.e.Transfer(e.ID); !ok || got != e.Transfer {
			x.t.Fatalf("Transfer(%v): %+v, %v; want %+v", e.ID, got, ok, e.Transfer)
		}
		if got := x.e.Amount(e.ID); got != numOf(e.amount) {
			x.t.Fatalf("Amount(%v): %v, want %v", e.ID, got, e.amount)
		}
	}
	x.checkNone()
	checkSums(x.t, got)
}

func (x *twin) checkAccount(want api.Account) {
	x.t.Helper()
	if got, ok := x.e.Account(want.ID); !ok || got != want {
		x.t.Fatalf("Account(%v): %+v, %v; want %+v", want.ID, got, ok, want)
	}
	l, got := x.m.rows[want.ID], x.e.Rows(want.ID)
	if got == nil || got.Len() != len(l) {
		x.t.Fatalf("Rows(%v): %v, want %d", want.ID, got, len(l))
	}
	for i, r := range l {
		if got.At(i) != r {
			x.t.Fatalf("Rows(%v): at %d %+v, want %+v", want.ID, i, got.At(i), r)
		}
	}
	if got.Root(nil) != want.Root {
		x.t.Fatalf("Rows(%v): another root", want.ID)
	}
}

// checkNone: what isn't in the model isn't in the engine.
func (x *twin) checkNone() {
	x.t.Helper()
	ids := []api.Num{{}, low(1<<40 + 1), {Hi: 1 << 50}, under(3)}
	for id := range uint64(70) {
		ids = append(ids, low(id), low(1000+id))
	}
	for _, id := range ids {
		if _, ok := x.m.made(id); !ok {
			checkNoAccount(x.t, x.e, id)
		}
		if _, ok := x.m.entry(id); !ok {
			checkNoTransfer(x.t, x.e, id)
		}
	}
}

func checkNoAccount(t *testing.T, e *Engine, id api.Num) {
	t.Helper()
	if a, ok := e.Account(id); ok || a != (api.Account{}) {
		t.Fatalf("Account(%v), that isn't there: %+v, %v", id, a, ok)
	}
	if l := e.Rows(id); l != nil {
		t.Fatalf("Rows(%v), that isn't there: %v", id, l)
	}
}

func checkNoTransfer(t *testing.T, e *Engine, id api.Num) {
	t.Helper()
	if x, ok := e.Transfer(id); ok || x != (api.Transfer{}) {
		t.Fatalf("Transfer(%v), that isn't there: %+v, %v", id, x, ok)
	}
	if n := e.Amount(id); n != (api.Num{}) {
		t.Fatalf("Amount(%v), that isn't there: %v", id, n)
	}
}

// checkSums: P11.2, of what Accounts tells alone.
func checkSums(t *testing.T, l []api.Account) {
	t.Helper()
	type sums struct{ debitsPending, debitsPosted, creditsPending, creditsPosted *big.Int }
	ledgers := map[int]sums{}
	for _, a := range l {
		s, ok := ledgers[a.Ledger]
		if !ok {
			s = sums{new(big.Int), new(big.Int), new(big.Int), new(big.Int)}
			ledgers[a.Ledger] = s
		}
		s.debitsPending.Add(s.debitsPending, bigOf(a.DebitsPending))
		s.debitsPosted.Add(s.debitsPosted, bigOf(a.DebitsPosted))
		s.creditsPending.Add(s.creditsPending, bigOf(a.CreditsPending))
		s.creditsPosted.Add(s.creditsPosted, bigOf(a.CreditsPosted))
		if has(a.Flags, api.DebitLimit) && together(a.DebitsPending, a.DebitsPosted).Cmp(bigOf(a.CreditsPosted)) > 0 {
			t.Fatalf("not within its limit: %+v", a)
		}
		if has(a.Flags, api.CreditLimit) && together(a.CreditsPending, a.CreditsPosted).Cmp(bigOf(a.DebitsPosted)) > 0 {
			t.Fatalf("not within its limit: %+v", a)
		}
	}
	for ledger, s := range ledgers {
		if s.debitsPosted.Cmp(s.creditsPosted) != 0 || s.debitsPending.Cmp(s.creditsPending) != 0 {
			t.Fatalf("on ledger %d debits aren't credits: %v", ledger, s)
		}
	}
}
