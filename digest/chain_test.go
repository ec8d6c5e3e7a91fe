package digest

import (
	"bytes"
	"math"
	"math/rand"
	"slices"
	"testing"

	"pacioli/api"
	"pacioli/history"
	"pacioli/state"
)

// checkGrowth: is the list what the model has, and does Grown take it with both roots, and with no others?
func checkGrowth(t *testing.T, c *Chain, m model, from, to int) {
	t.Helper()
	path, ok := c.Growth(from, to)
	if !ok || !slices.Equal(path, m.growth(from, to)) {
		t.Fatalf("Growth(%d, %d) of %d: %x, %v, not %x", from, to, len(m), path, ok, m.growth(from, to))
	}
	old, _, _ := c.Roots(from)
	young, _, _ := c.Roots(to)
	if !history.Grown(nil, from, to, old, young, path...) {
		t.Fatal("not Grown", from, to, len(m))
	}
	other := hash([]byte("other"))
	if history.Grown(nil, from, to, other, young, path...) {
		t.Fatal("Grown from another root", from, to, len(m))
	}
	if from > 0 && history.Grown(nil, from, to, old, other, path...) {
		t.Fatal("Grown to another root", from, to, len(m))
	}
}

func TestNewChain(t *testing.T) {
	c := New()
	if c == nil || c.Len() != 0 {
		t.Fatal(c)
	}
	log, st, ok := c.Roots(0)
	if !ok || log != history.Root(nil) || st != state.None(nil) || log != hash() || st != hash([]byte{4}) {
		t.Fatal(log, st, ok)
	}
	if h, ok := c.At(0); !ok || h != Of(nil, 0, log, st) {
		t.Fatal(h, ok)
	}
	if path, ok := c.Growth(0, 0); !ok || len(path) != 0 {
		t.Fatal(path, ok)
	}
	for _, n := range outside(0) {
		checkNone(t, c, n)
		checkNoGrowth(t, c, 0, n)
		checkNoGrowth(t, c, n, 0)
		checkNoGrowth(t, c, n, n)
	}
	checkAll(t, c, nil) // being asked has changed nothing
}

// Each is one of its own.
func TestNewChainsGoTheirOwnWays(t *testing.T) {
	a, b := New(), New()
	m := sample(5)
	for n, x := range m {
		a.Add(x.bytes, x.accounts...)
		checkAll(t, a, m[:n+1])
		checkAll(t, b, nil)
	}
	b.Add(m[3].bytes, m[3].accounts...)
	checkAll(t, a, m)
	checkAll(t, b, m[3:4])
}

// Behind each batch that is added: all that is asked, of all that there is then.
func TestBatchByBatch(t *testing.T) {
	m := sample(whole)
	c := New()
	for n, b := range m {
		c.Add(b.bytes, b.accounts...)
		checkAll(t, c, m[:n+1])
	}
}

// Chains of one, two, three batches, and around powers of two, with no accounts, one, many.
func TestAroundPowersOfTwo(t *testing.T) {
	for _, many := range []int{0, 1, 2, 3, api.MaxAccounts, api.MaxAccounts + 1} {
		var m model
		c := New()
		for n := 1; n <= 65; n++ {
			m = append(m, batchOf([]byte{3, 0, 0, 0, byte(n)}, accounts(many, n)))
			c.Add(m[n-1].bytes, m[n-1].accounts...)
			if c.Len() != n {
				t.Fatal("Len:", c.Len(), "not", n)
			}
			if n > 5 && n&(n-1) != 0 && (n-1)&(n-2) != 0 && (n+1)&n != 0 {
				continue
			}
			for _, at := range []int{0, 1, n / 2, n - 1, n} {
				checkBehind(t, c, m, at)
				checkGrowth(t, c, m, at, n)
			}
			checkNone(t, c, -1)
			checkNone(t, c, n+1)
		}
	}
}

func TestManyBatches(t *testing.T) {
	const n = 1025
	m := sample(n)
	c := m.chain()
	for _, at := range []int{0, 1, 2, 3, 511, 512, 513, 1000, 1023, 1024, 1025} {
		checkBehind(t, c, m, at)
		checkGrowth(t, c, m, at, n)
	}
	checkNone(t, c, n+1)
}

func TestGrowthOfAll(t *testing.T) {
	m := sample(whole)
	c := m.chain()
	for to := range whole + 1 {
		for from := range to + 1 {
			checkGrowth(t, c, m, from, to)
		}
		if path, _ := c.Growth(0, to); len(path) != 0 {
			t.Fatal("of m 0:", path)
		}
		if path, _ := c.Growth(to, to); len(path) != 0 {
			t.Fatal("of m = n:", path)
		}
	}
}

func TestNoGrowth(t *testing.T) {
	for n := range whole {
		c := sample(n).chain()
		for to := range n + 1 {
			for from := to + 1; from <= n+2; from++ {
				checkNoGrowth(t, c, from, to)
			}
		}
		for _, far := range outside(n) {
			for inside := range n + 1 {
				checkNoGrowth(t, c, inside, far)
				checkNoGrowth(t, c, far, inside)
			}
			for _, other := range outside(n) {
				checkNoGrowth(t, c, far, other)
			}
		}
	}
}

// What is told of elder batches stays, whatever is added later.
func TestEldersStay(t *testing.T) {
	type told struct{ log, st, digest api.Hash }
	m := sample(40)
	c := New()
	tell := func(n int) told {
		log, st, ok := c.Roots(n)
		h, other := c.At(n)
		if !ok || !other {
			t.Fatal("nothing is told of", n)
		}
		return told{log, st, h}
	}
	list := []told{tell(0)}
	var grown [][]api.Hash
	for n, b := range m {
		c.Add(b.bytes, b.accounts...)
		list = append(list, tell(n+1))
		path, _ := c.Growth((n+1)/2, n+1)
		grown = append(grown, path)
		for at, was := range list {
			if tell(at) != was {
				t.Fatal("behind", n+1, "another", at)
			}
		}
		for at, was := range grown {
			if path, ok := c.Growth((at+1)/2, at+1); !ok || !slices.Equal(path, was) {
				t.Fatal("behind", n+1, "another growth to", at+1)
			}
		}
	}
}

// What was handed in may be changed: by the one who handed it in, not by the chain.
func TestHandedInIsNotKept(t *testing.T) {
	m := sample(9)
	c := New()
	b := make([]byte, 0, 1000)
	l := make([]api.Account, 0, 1000)
	for _, x := range m {
		b, l = append(b[:0], x.bytes...), append(l[:0], x.accounts...)
		behindBytes, behindAccounts := slices.Clone(b[:1000]), slices.Clone(l[:1000])
		c.Add(b, l...)
		if !bytes.Equal(b[:1000], behindBytes) || !slices.Equal(l[:1000], behindAccounts) {
			t.Fatal("the chain changes what is handed in")
		}
		for i := range b {
			b[i] ^= 255
		}
		for i := range l {
			l[i] = account(77)
		}
	}
	checkAll(t, c, m)
	for n := range len(m) + 1 {
		checkGrowth(t, c, m, n, len(m))
	}
}

// What is handed out may be changed, and added to.
func TestHandedOutIsNewMemory(t *testing.T) {
	m := sample(9)
	c := m.chain()
	for to := range len(m) + 1 {
		for from := range to + 1 {
			path, _ := c.Growth(from, to)
			again, _ := c.Growth(from, to)
			for i := range path {
				path[i] = api.Hash{}
			}
			_ = append(path, api.Hash{1})
			if !slices.Equal(again, m.growth(from, to)) {
				t.Fatal("two lists share memory", from, to)
			}
			log, st, _ := c.Roots(to)
			log[0], st[0] = log[0]+1, st[0]+1
			h, _ := c.At(to)
			h[0]++
		}
	}
	checkAll(t, c, m)
	for n := range len(m) + 1 {
		checkGrowth(t, c, m, n, len(m))
	}
}

// Being asked, in any order, changes nothing.
func TestAskedInAnyOrder(t *testing.T) {
	m := sample(12)
	c := New()
	draw := rand.New(rand.NewSource(12))
	for n, b := range m {
		c.Add(b.bytes, b.accounts...)
		for range 40 {
			switch at, to := draw.Intn(n+2), draw.Intn(n+2); draw.Intn(4) {
			case 0:
				checkBehind(t, c, m, at)
			case 1:
				checkNone(t, c, n+2+at)
			case 2:
				checkGrowth(t, c, m, min(at, to), max(at, to))
			case 3:
				checkNoGrowth(t, c, max(at, to)+1, min(at, to))
			}
		}
	}
}

// digests: all that a chain has.
func digests(t *testing.T, c *Chain) []api.Hash {
	t.Helper()
	var l []api.Hash
	for n := range c.Len() + 1 {
		h, ok := c.At(n)
		if !ok {
			t.Fatal("no digest behind", n)
		}
		l = append(l, h)
	}
	return l
}

func TestChainsAlike(t *testing.T) {
	m := sample(33)
	a, b := New(), New()
	for n, x := range m {
		a.Add(x.bytes, x.accounts...)
		if n%3 == 0 { // one of them is asked meanwhile
			digests(t, a)
		}
	}
	for _, x := range m {
		b.Add(bytes.Clone(x.bytes), slices.Clone(x.accounts)...)
	}
	if !slices.Equal(digests(t, a), digests(t, b)) {
		t.Fatal("chains of the same batches, other digests")
	}
	// No bytes are no bytes, no accounts are no accounts.
	a.Add(nil)
	b.Add([]byte{}, []api.Account{}...)
	if !slices.Equal(digests(t, a), digests(t, b)) {
		t.Fatal("nil and empty are not alike")
	}
}

// unlike: chains that are changed in their batch n alone.
func unlike(m model, n int) []model {
	changed := func(change func(b *batch)) model {
		other := slices.Clone(m)
		other[n].accounts = slices.Clone(m[n].accounts)
		change(&other[n])
		other[n] = batchOf(other[n].bytes, other[n].accounts)
		return other
	}
	last := func(b *batch) *api.Account { return &b.accounts[len(b.accounts)-1] }
	l := []model{
		changed(func(b *batch) { b.bytes = append(bytes.Clone(b.bytes), 201) }),
		changed(func(b *batch) { b.bytes = append([]byte{202}, b.bytes...) }),
		changed(func(b *batch) { b.accounts = append(b.accounts, account(900)) }),
	}
	if len(m[n].bytes) > 0 {
		l = append(l,
			changed(func(b *batch) { b.bytes = b.bytes[1:] }),
			changed(func(b *batch) { b.bytes = bytes.Clone(b.bytes); b.bytes[0] ^= 1 }),
			changed(func(b *batch) { b.bytes = bytes.Clone(b.bytes); b.bytes[len(b.bytes)-1] ^= 128 }))
	}
	if len(m[n].accounts) > 0 {
		l = append(l,
			changed(func(b *batch) { b.accounts = b.accounts[1:] }),
			changed(func(b *batch) { last(b).ID.Lo ^= 1 << 40 }),
			changed(func(b *batch) { last(b).Ledger++ }),
			changed(func(b *batch) { last(b).Flags ^= api.Closed }),
			changed(func(b *batch) { last(b).DebitsPending.Lo++ }),
			changed(func(b *batch) { last(b).DebitsPosted.Hi++ }),
			changed(func(b *batch) { last(b).CreditsPending.Hi++ }),
			changed(func(b *batch) { last(b).CreditsPosted.Lo++ }),
			changed(func(b *batch) { last(b).Time++ }),
			changed(func(b *batch) { last(b).Rows++ }),
			changed(func(b *batch) { last(b).Root[31] ^= 1 }))
	}
	return l
}

// A batch that is another one changes all digests from there on, and none ahead.
func TestChainsUnlike(t *testing.T) {
	m := sample(9)
	was := digests(t, m.chain())
	seen := map[api.Hash]int{was[len(was)-1]: 1}
	made := 1
	for n := range m {
		for which, other := range unlike(m, n) {
			c := other.chain()
			checkAll(t, c, other)
			got := digests(t, c)
			for at := range got {
				if (got[at] == was[at]) != (at <= n) {
					t.Fatal("batch", n, "change", which, "digest", at)
				}
			}
			seen[got[len(got)-1]]++
			made++
		}
	}
	if len(seen) != made {
		t.Fatal("two unlike chains with one digest:", len(seen), "of", made)
	}
}

// The same bytes and accounts in another order, or cut elsewhere, are another chain.
func TestOrderAndCuts(t *testing.T) {
	one := accounts(1, 0)
	chains := []model{
		{batchOf([]byte("ab"), one), batchOf([]byte("c"), one)},
		{batchOf([]byte("a"), one), batchOf([]byte("bc"), one)},
		{batchOf([]byte("c"), one), batchOf([]byte("ab"), one)},
		{batchOf([]byte("abc"), one), batchOf(nil, one)},
		{batchOf(nil, one), batchOf([]byte("abc"), one)},
		{batchOf([]byte("abc"), one)},
		{batchOf([]byte("a"), one), batchOf([]byte("b"), one), batchOf([]byte("c"), one)},
		{batchOf([]byte("ab"), nil), batchOf([]byte("c"), one)},
		{batchOf([]byte("ab"), one), batchOf([]byte("c"), nil)},
		{batchOf([]byte("ab"), accounts(1, 1)), batchOf([]byte("c"), one)},
		{},
		{batchOf(nil, nil)},
		{batchOf(nil, nil), batchOf(nil, nil)},
	}
	seen := map[api.Hash]int{}
	for i, m := range chains {
		h, ok := m.chain().At(len(m))
		if !ok || h != m.at(len(m)) || seen[h] != 0 {
			t.Fatal(i, h, ok, "as that of", seen[h]-1)
		}
		seen[h] = i + 1
	}
}

// The batches' own hashes are in the roots: of one batch the root is its leaf, and each leaf climbs to the root.
func TestLeavesClimb(t *testing.T) {
	m := sample(11)
	c := m.chain()
	var leaves []api.Hash
	for _, b := range m {
		leaves = append(leaves, Leaf(nil, b.bytes, state.Root(nil, 0, b.accounts...)))
	}
	if log, _, _ := c.Roots(1); log != leaves[0] {
		t.Fatal("of one:", log)
	}
	log, _, _ := c.Roots(len(m))
	for i, leaf := range leaves {
		path, _ := history.Path(nil, i, leaves...)
		if h, ok := history.Climb(nil, leaf, i, len(m), path...); !ok || h != log {
			t.Fatal("leaf", i)
		}
	}
}

// Accounts that may not be: it ends, the others are told as ever, and both chains that were told this are alike.
func TestStrangeAccounts(t *testing.T) {
	top := api.Num{Hi: math.MaxUint64, Lo: math.MaxUint64}
	strange := [][]api.Account{
		{account(2), account(1)},
		{account(1), account(1)},
		{account(1), account(1), account(1), account(2)},
		{{}, {}},
		{{Ledger: -1, Flags: -1, Time: -1, Rows: -1}},
		{{ID: top, Ledger: math.MaxInt, Flags: math.MinInt, DebitsPending: top, DebitsPosted: top, CreditsPending: top, CreditsPosted: top, Time: math.MaxInt, Rows: math.MinInt}},
		accounts(1000, 3),
	}
	a, b := New(), New()
	for n, l := range strange {
		before := slices.Clone(l)
		a.Add([]byte{byte(n)}, l...)
		b.Add([]byte{byte(n)}, l...)
		if !slices.Equal(l, before) {
			t.Fatal("the accounts are changed", n)
		}
		if _, st, ok := a.Roots(n + 1); !ok || st != state.Root(nil, 0, l...) {
			t.Fatal("roots behind", n+1)
		}
	}
	if a.Len() != len(strange) || !slices.Equal(digests(t, a), digests(t, b)) {
		t.Fatal(a.Len())
	}
	if h, _ := a.At(0); h != model(nil).at(0) {
		t.Fatal("behind none:", h)
	}
}
