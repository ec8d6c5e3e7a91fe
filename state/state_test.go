package state

import (
	"bytes"
	"crypto/sha256"
	"encoding/binary"
	"math"
	"math/rand"
	"slices"
	"testing"

	"pacioli/api"
	"pacioli/sha"
)

// Every test here is one of P7.1; that none of these calls panics or goes on for ever is P0.

const bitCount = 128

// A model is the chapter's words, hash by hash, and what is noted by them.
type model struct{ notes [][]byte }

func (x *model) hash(parts ...[]byte) api.Hash {
	whole := bytes.Join(parts, nil)
	x.notes = append(x.notes, whole)
	return sha256.Sum256(whole)
}

func (x *model) none() api.Hash { return x.hash([]byte{4}) }

func (x *model) leaf(a api.Account) api.Hash { return x.hash([]byte{2}, accountBytes(a)) }

func (x *model) node(a, b api.Hash) api.Hash { return x.hash([]byte{3}, a[:], b[:]) }

func (x *model) root(at int, l []api.Account) api.Hash {
	if len(l) == 0 {
		return x.none()
	}
	if len(l) == 1 {
		return x.leaf(l[0])
	}
	without := x.root(at+1, having(0, at, l))
	with := x.root(at+1, having(1, at, l))
	return x.node(without, with)
}

func (x *model) prove(id api.Num, l []api.Account) Proof {
	var p Proof
	for at := 0; len(l) > 1; at++ {
		p.Path = append(p.Path, x.root(at+1, having(1-bitOf(id, at), at, l)))
		l = having(bitOf(id, at), at, l)
	}
	if len(l) == 1 {
		p.There, p.Account = true, l[0]
	}
	return p
}

func (x *model) climb(id api.Num, p Proof) (api.Hash, bool) {
	if len(p.Path) > bitCount || !p.There && p.Account != (api.Account{}) {
		return api.Hash{}, false
	}
	for at := range p.Path {
		if p.There && bitOf(p.Account.ID, at) != bitOf(id, at) {
			return api.Hash{}, false
		}
	}
	return x.climbFrom(0, id, p), true
}

func (x *model) climbFrom(at int, id api.Num, p Proof) api.Hash {
	if at < len(p.Path) {
		below := x.climbFrom(at+1, id, p)
		if bitOf(id, at) == 1 {
			return x.node(p.Path[at], below)
		}
		return x.node(below, p.Path[at])
	}
	if p.There {
		return x.leaf(p.Account)
	}
	return x.none()
}

// numBytes: a number's sixteen, the highest first.
func numBytes(a api.Num) []byte {
	return binary.BigEndian.AppendUint64(binary.BigEndian.AppendUint64(nil, a.Hi), a.Lo)
}

// bitOf: a number's bit, the highest being 0; there are none ahead of it, or behind the last one.
func bitOf(a api.Num, at int) int {
	if at < 0 || at >= bitCount {
		return 0
	}
	return int(numBytes(a)[at/8]) >> (7 - at%8) & 1
}

// having: those whose bit is this.
func having(bit, at int, l []api.Account) []api.Account {
	return slices.DeleteFunc(slices.Clone(l), func(a api.Account) bool { return bitOf(a.ID, at) != bit })
}

// accountBytes: an account's bytes, as chapter 3 has them.
func accountBytes(a api.Account) []byte {
	b := numBytes(a.ID)
	b = binary.BigEndian.AppendUint32(b, uint32(a.Ledger))
	b = binary.BigEndian.AppendUint16(b, uint16(a.Flags))
	for _, n := range []api.Num{a.DebitsPending, a.DebitsPosted, a.CreditsPending, a.CreditsPosted} {
		b = append(b, numBytes(n)...)
	}
	for _, n := range []int{a.Time, a.Rows} {
		b = append(b, binary.BigEndian.AppendUint64(nil, uint64(n))[2:]...)
	}
	return append(b, a.Root[:]...)
}

// account: one of this number, unlike others in all its parts.
func account(id api.Num) api.Account {
	s := sha256.Sum256(numBytes(id))
	num := func(i int) api.Num { return api.Num{Hi: uint64(s[i]), Lo: binary.BigEndian.Uint64(s[i:])} }
	return api.Account{
		ID: id, Ledger: 1 + int(s[0]), Flags: int(s[1]) & 14,
		DebitsPending: num(2), DebitsPosted: num(3), CreditsPending: num(4), CreditsPosted: num(5),
		Time: 256*int(s[6]) + int(s[7]), Rows: int(s[8]), Root: s,
	}
}

func accounts(ids ...api.Num) []api.Account {
	var l []api.Account
	for _, id := range ids {
		l = append(l, account(id))
	}
	return l
}

func low(n uint64) api.Num { return api.Num{Lo: n} }

// one: the number that has just this bit.
func one(at int) api.Num { return turnedNum(api.Num{}, at) }

// turnedNum: a number with one bit turned.
func turnedNum(a api.Num, at int) api.Num {
	if at < 64 {
		a.Hi ^= 1 << (63 - at)
	} else {
		a.Lo ^= 1 << (127 - at)
	}
	return a
}

// turned: a hash with one bit turned.
func turned(h api.Hash, at int) api.Hash {
	h[at/8%32] ^= 1 << (at % 8)
	return h
}

func compareNums(a, b api.Num) int { return bytes.Compare(numBytes(a), numBytes(b)) }

// rising: accounts of these numbers, in their order, each once.
func rising(ids []api.Num) []api.Account {
	ids = slices.Clone(ids)
	slices.SortFunc(ids, compareNums)
	return accounts(slices.Compact(ids)...)
}

func maxNum() api.Num { return api.Num{Hi: math.MaxUint64, Lo: math.MaxUint64} }

// sets: lists of accounts as they may be.
func sets() [][]api.Account {
	var powers []api.Num
	for at := 0; at < bitCount; at += 9 {
		powers = append(powers, one(at), one(at+1))
	}
	l := [][]api.Account{
		nil,
		accounts(low(0)),
		accounts(low(1)),
		accounts(maxNum()),
		accounts(low(1), one(0)),
		accounts(low(1), low(2)),
		accounts(low(1), low(2), low(3)),
		accounts(low(2), low(3)),
		accounts(low(0), maxNum()),
		accounts(turnedNum(maxNum(), 127), maxNum()),
		accounts(low(0), low(1), turnedNum(maxNum(), 127), maxNum()),
		accounts(low(math.MaxUint64), api.Num{Hi: 1}),
		rising(powers),
	}
	for at := range bitCount { // two that part in one bit alone
		l = append(l, accounts(low(0), one(at)), rising([]api.Num{turnedNum(maxNum(), at), maxNum()}))
	}
	random := rand.New(rand.NewSource(7))
	for n := 1; n < 40; n += 3 {
		var far, near []api.Num
		for range n {
			far = append(far, api.Num{Hi: random.Uint64(), Lo: random.Uint64()})
			near = append(near, turnedNum(turnedNum(low(9), random.Intn(bitCount)), random.Intn(bitCount)))
		}
		l = append(l, rising(far), rising(near))
	}
	return l
}

// asked: the numbers of a list, those beside them in one bit, and some that may be nowhere near.
func asked(l []api.Account) []api.Num {
	ids := []api.Num{low(0), low(1), low(2), one(0), one(1), maxNum()}
	for i, a := range l {
		ids = append(ids, a.ID, turnedNum(a.ID, 0), turnedNum(a.ID, 1+i%126), turnedNum(a.ID, 127))
	}
	return ids
}

// checkNotes holds what is on a tape against a list.
func checkNotes(t *testing.T, tape *sha.Tape, want ...[]byte) {
	t.Helper()
	var got [][]byte
	for b := range tape.All {
		got = append(got, b)
	}
	if !slices.EqualFunc(got, want, bytes.Equal) {
		t.Errorf("noted: %x, want %x", got, want)
	}
}

// checkMade looks whether each node that was noted is made of what is given, or was noted ahead of it.
func checkMade(t *testing.T, tape *sha.Tape, given ...api.Hash) {
	t.Helper()
	known := map[api.Hash]int{}
	for _, h := range given {
		known[h]++
	}
	for b := range tape.All {
		if len(b) == 65 && (known[api.Hash(b[1:33])] == 0 || known[api.Hash(b[33:])] == 0) {
			t.Errorf("made of what isn't known yet: %x", b)
		}
		known[sha256.Sum256(b)]++
	}
}

// checkRoot holds a root against the model's, with a tape and without one.
func checkRoot(t *testing.T, at int, l []api.Account) api.Hash {
	t.Helper()
	x, tape := &model{}, &sha.Tape{}
	want := x.root(at, l)
	got := Root(tape, at, l...)
	if got != want {
		t.Errorf("Root from %d on of %d accounts: %x, want %x", at, len(l), got, want)
	}
	checkNotes(t, tape, x.notes...)
	checkMade(t, tape)
	if bare := Root(nil, at, l...); bare != want {
		t.Errorf("Root from %d on of %d accounts without a tape: %x, want %x", at, len(l), bare, want)
	}
	return got
}

// sameProof: are these one proof? An empty list may be nil or not.
func sameProof(a, b Proof) bool {
	return a.There == b.There && a.Account == b.Account && slices.Equal(a.Path, b.Path)
}

// checkProve holds a proof against the model's, with a tape and without one.
func checkProve(t *testing.T, id api.Num, l []api.Account) Proof {
	t.Helper()
	x, tape := &model{}, &sha.Tape{}
	want := x.prove(id, l)
	got := Prove(tape, id, l...)
	if !sameProof(got, want) {
		t.Errorf("Prove(%x) of %d accounts: %v, want %v", id, len(l), got, want)
	}
	checkNotes(t, tape, x.notes...)
	checkMade(t, tape)
	if bare := Prove(nil, id, l...); !sameProof(bare, want) {
		t.Errorf("Prove(%x) of %d accounts without a tape: %v, want %v", id, len(l), bare, want)
	}
	return got
}

// checkClimb holds a climb against the model's, with a tape and without one.
func checkClimb(t *testing.T, id api.Num, p Proof) (api.Hash, bool) {
	t.Helper()
	x, tape := &model{}, &sha.Tape{}
	want, may := x.climb(id, p)
	got, ok := Climb(tape, id, p)
	if got != want || ok != may {
		t.Errorf("Climb(%x, %v): %x, %v; want %x, %v", id, p, got, ok, want, may)
	}
	checkNotes(t, tape, x.notes...) // beside false none
	checkMade(t, tape, p.Path...)
	if bare, is := Climb(nil, id, p); bare != want || is != may {
		t.Errorf("Climb(%x, %v) without a tape: %x, %v", id, p, bare, is)
	}
	return got, ok
}

// refused: is this no proof of a number?
func refused(t *testing.T, what string, id api.Num, p Proof) {
	t.Helper()
	if h, ok := checkClimb(t, id, p); ok || h != (api.Hash{}) {
		t.Errorf("%s: %x, %v", what, h, ok)
	}
}

// elsewhere: does this lead to another root than that?
func elsewhere(t *testing.T, what string, id api.Num, p Proof, root api.Hash) {
	t.Helper()
	if h, ok := checkClimb(t, id, p); !ok || h == root {
		t.Errorf("%s: %x, %v", what, h, ok)
	}
}

func TestExample(t *testing.T) {
	for _, at := range []int{0, 1, 127, 128, 129, -1, math.MinInt, math.MaxInt} {
		if Root(nil, at) != None(nil) || Root(nil, at, []api.Account{}...) != None(nil) {
			t.Errorf("Root of no accounts, from %d on, isn't None", at)
		}
	}
}

func TestNone(t *testing.T) {
	want := api.Hash(sha256.Sum256([]byte{4}))
	tape := &sha.Tape{}
	if None(tape) != want || None(nil) != want {
		t.Errorf("None: %x, want %x", None(nil), want)
	}
	checkNotes(t, tape, []byte{4})
}

func TestLeafOfBytes(t *testing.T) {
	full := account(api.Num{Hi: 0x0102030405060708, Lo: 0x090a0b0c0d0e0f10})
	l := append(accounts(low(0), low(1), maxNum(), one(0)), full, api.Account{}, api.Account{
		ID: maxNum(), Ledger: math.MaxUint32, Flags: math.MaxUint16,
		DebitsPending: maxNum(), DebitsPosted: maxNum(), CreditsPending: maxNum(), CreditsPosted: maxNum(),
		Time: 1<<48 - 1, Rows: 1<<48 - 1, Root: sha256.Sum256(nil),
	})
	for _, a := range l {
		whole := append([]byte{2}, accountBytes(a)...)
		if len(whole) != 131 {
			t.Fatal(len(whole))
		}
		tape := &sha.Tape{}
		if got := Leaf(tape, a); got != sha256.Sum256(whole) {
			t.Errorf("Leaf(%v): %x", a, got)
		}
		checkNotes(t, tape, whole)
		if Leaf(nil, a) != sha256.Sum256(whole) {
			t.Errorf("Leaf(%v) without a tape", a)
		}
	}
}

// Each part of an account is in its leaf.
func TestLeafOfOtherAccounts(t *testing.T) {
	a := account(low(5))
	seen := map[api.Hash]int{Leaf(nil, a): 1}
	for _, change := range []func(*api.Account){
		func(a *api.Account) { a.ID.Hi++ },
		func(a *api.Account) { a.ID.Lo++ },
		func(a *api.Account) { a.Ledger++ },
		func(a *api.Account) { a.Flags ^= api.Closed },
		func(a *api.Account) { a.DebitsPending.Lo++ },
		func(a *api.Account) { a.DebitsPosted.Lo++ },
		func(a *api.Account) { a.CreditsPending.Hi++ },
		func(a *api.Account) { a.CreditsPosted.Hi++ },
		func(a *api.Account) { a.Time++ },
		func(a *api.Account) { a.Rows++ },
		func(a *api.Account) { a.Root = turned(a.Root, 77) },
	} {
		other := a
		change(&other)
		seen[Leaf(nil, other)]++
	}
	if len(seen) != 12 {
		t.Errorf("%d hashes of 12 accounts", len(seen))
	}
}

func TestRootOfOne(t *testing.T) {
	for _, a := range accounts(low(0), low(1), one(0), maxNum()) {
		for _, at := range []int{0, 1, 9, 64, 126, 127, 128, 129, 1000, -1, -1000, math.MinInt, math.MaxInt} {
			if got := checkRoot(t, at, []api.Account{a}); got != Leaf(nil, a) {
				t.Errorf("from %d on: %x", at, got)
			}
		}
	}
}

// By hand: 1 is alone behind bit 126, so it is a leaf there; 2 and 3 part in the last bit; ahead of these nothing is beside them.
func TestRootByHand(t *testing.T) {
	l := accounts(low(1), low(2), low(3))
	x, tape := &model{}, &sha.Tape{}
	want := x.node(x.leaf(l[0]), x.node(x.leaf(l[1]), x.leaf(l[2])))
	want = x.node(want, x.none())
	want = x.node(want, x.none())
	if got := Root(tape, 124, l...); got != want {
		t.Errorf("from 124 on: %x, want %x", got, want)
	}
	checkNotes(t, tape, x.notes...)
}

func TestRootFromTheFirstBit(t *testing.T) {
	seen := map[api.Hash]int{}
	for _, l := range sets() {
		h := checkRoot(t, 0, l)
		if n, ok := seen[h]; ok && n != len(l) {
			t.Errorf("one root of %d accounts and of %d", n, len(l))
		}
		seen[h] = len(l)
	}
}

// From later bits on the accounts rise by their numbers all the same, not by what is left of them.
func TestRootFromLaterBits(t *testing.T) {
	for _, l := range sets() {
		for _, at := range []int{1, 2, 63, 64, 65, 100, 126, 127} {
			if partsFrom(at, l) {
				checkRoot(t, at, l)
			}
		}
	}
	mixed := accounts(low(0), one(1), turnedNum(one(0), 127)) // of bit 1: without, with, without
	if !partsFrom(1, mixed) {
		t.Fatal("these don't part")
	}
	checkRoot(t, 1, mixed)
	for at := range bitCount { // both go by their last bit alone
		l := accounts(one(3), turnedNum(one(3), 127))
		checkRoot(t, at, l)
	}
}

// partsFrom: does each pair have a bit from there on in which it parts?
func partsFrom(at int, l []api.Account) bool {
	for i, a := range l {
		for _, b := range l[:i] {
			parts := false
			for bit := max(at, 0); bit < bitCount; bit++ {
				parts = parts || bitOf(a.ID, bit) != bitOf(b.ID, bit)
			}
			if !parts {
				return false
			}
		}
	}
	return true
}

// Ahead of the first bit nobody has a bit: all are on one side, None on the other one.
func TestRootFromAheadOfTheFirstBit(t *testing.T) {
	for _, l := range [][]api.Account{accounts(low(1), low(2)), accounts(low(1), one(0)), accounts(low(1), low(2), maxNum())} {
		for _, at := range []int{-1, -2, -3, -64, -128, -300} {
			checkRoot(t, at, l)
		}
		x := &model{}
		if got := Root(nil, -1, l...); got != x.node(x.root(0, l), x.none()) {
			t.Errorf("from -1 on: %x", got)
		}
	}
	Root(nil, -1<<16, accounts(low(1), low(2))...)
	for _, at := range []int{math.MinInt, math.MinInt + 1, math.MinInt32} { // past what is promised it ends
		tape := &sha.Tape{}
		Root(tape, at, accounts(low(1), low(2))...)
		Root(nil, at, accounts(low(1), low(2))...)
	}
}

func TestRootLastBitAlone(t *testing.T) {
	l := accounts(turnedNum(maxNum(), 127), maxNum())
	tape := &sha.Tape{}
	got := Root(tape, 0, l...)
	x := &model{}
	want := x.node(x.leaf(l[0]), x.leaf(l[1]))
	if Root(nil, 127, l...) != want {
		t.Error("from the last bit on")
	}
	none := new(model).none()
	for range 127 {
		want = new(model).node(none, want)
	}
	if got != want {
		t.Errorf("from bit 0 on: %x, want %x", got, want)
	}
	nones := 0
	for b := range tape.All {
		if len(b) == 1 {
			nones++
		}
	}
	if nones != 127 || tape.Len() != 127+2+128 {
		t.Errorf("noted: None %d times, %d in all", nones, tape.Len())
	}
}

// Accounts that may not be, two of one number, or that don't rise: what is answered isn't said, but it ends; and so do numbers of bits behind the last one.
func TestWhatMayNotBeEnds(t *testing.T) {
	a := account(low(7))
	b := a
	b.Ledger++
	for _, l := range [][]api.Account{{a, a}, {a, b}, {b, a, a}, accounts(low(3), low(2), low(1)), accounts(maxNum(), low(7), maxNum()),
		slices.Repeat([]api.Account{a}, 100)} {
		for _, at := range []int{0, 1, 127, 128, 129, 1000, -1, math.MaxInt - 1, math.MaxInt} {
			Root(nil, at, l...)
			Root(&sha.Tape{}, at, l...)
		}
		for _, id := range append(asked(l), low(8), low(6)) {
			p := Prove(&sha.Tape{}, id, l...)
			if len(p.Path) > bitCount {
				t.Errorf("a path of %d hashes", len(p.Path))
			}
			Climb(nil, id, p)
		}
	}
	for _, at := range []int{1, 2, 127, 128, math.MaxInt} { // they part ahead of that bit
		Root(nil, at, accounts(low(1), turnedNum(low(1), 0))...)
	}
}

// What was on a tape stays there; what is noted comes behind it.
func TestTapeGoesOn(t *testing.T) {
	l := accounts(low(1), low(2), low(3), one(0))
	x, tape := &model{notes: [][]byte{[]byte("ahead")}}, &sha.Tape{}
	sha.Of(tape, []byte("ahead"))
	x.none()
	x.leaf(l[0])
	x.root(0, l)
	p := x.prove(low(2), l)
	x.climb(low(2), p)
	None(tape)
	Leaf(tape, l[0])
	Root(tape, 0, l...)
	Prove(tape, low(2), l...)
	Climb(tape, low(2), p)
	checkNotes(t, tape, x.notes...)
}

func TestProveAmongNone(t *testing.T) {
	for _, id := range asked(nil) {
		tape := &sha.Tape{}
		if p := Prove(tape, id); p.There || p.Account != (api.Account{}) || len(p.Path) != 0 {
			t.Errorf("of %x: %v", id, p)
		}
		checkNotes(t, tape)
		if h, ok := checkClimb(t, id, Prove(nil, id)); !ok || h != None(nil) {
			t.Errorf("Climb of %x: %x, %v", id, h, ok)
		}
	}
}

// Where there is one, it stands at the end of each way.
func TestProveAmongOne(t *testing.T) {
	a := account(low(6))
	for _, id := range asked([]api.Account{a}) {
		tape := &sha.Tape{}
		if p := Prove(tape, id, a); !p.There || p.Account != a || len(p.Path) != 0 {
			t.Errorf("of %x: %v", id, p)
		}
		checkNotes(t, tape)
		if h, ok := checkClimb(t, id, Prove(nil, id, a)); !ok || h != Leaf(nil, a) {
			t.Errorf("Climb of %x: %x, %v", id, h, ok)
		}
	}
}

func TestProveByHand(t *testing.T) {
	l := accounts(low(1), one(0), turnedNum(one(0), 2))
	first, middle, last := l[0], l[1], l[2]
	leafA, leafB, leafC := Leaf(nil, first), Leaf(nil, middle), Leaf(nil, last)
	none := None(nil)
	x := &model{}
	third := x.node(leafB, leafC)
	second := x.node(third, none)
	cases := []struct {
		what string
		id   api.Num
		want Proof
	}{
		{"the first one", first.ID, Proof{true, first, []api.Hash{second}}},
		{"none, beside the first one", low(2), Proof{true, first, []api.Hash{second}}},
		{"the second one", middle.ID, Proof{true, middle, []api.Hash{leafA, none, leafC}}},
		{"the third one", last.ID, Proof{true, last, []api.Hash{leafA, none, leafB}}},
		{"none, beside the third one", turnedNum(last.ID, 127), Proof{true, last, []api.Hash{leafA, none, leafB}}},
		{"none, an empty side", turnedNum(one(0), 1), Proof{false, api.Account{}, []api.Hash{leafA, third}}},
		{"none, the same empty side", maxNum(), Proof{false, api.Account{}, []api.Hash{leafA, third}}},
	}
	root := x.node(leafA, second)
	for _, c := range cases {
		if got := checkProve(t, c.id, l); !sameProof(got, c.want) {
			t.Errorf("%s: %v, want %v", c.what, got, c.want)
		}
		if h, ok := checkClimb(t, c.id, c.want); !ok || h != root {
			t.Errorf("%s: climbs to %x, %v; want %x", c.what, h, ok, root)
		}
	}
}

// The roots beside the way are noted from the first bit on; what is left at its end isn't hashed.
func TestProveNotes(t *testing.T) {
	l := accounts(low(0), low(1), one(127-2), turnedNum(one(0), 1), maxNum())
	for _, a := range l {
		tape := &sha.Tape{}
		Prove(tape, a.ID, l...)
		own := append([]byte{2}, accountBytes(a)...)
		for b := range tape.All {
			if bytes.Equal(b, own) {
				t.Errorf("of %x: its own leaf is noted", a.ID)
			}
		}
		if tape.Len() == 0 {
			t.Errorf("of %x: nothing is noted", a.ID)
		}
	}
	two := accounts(low(0), low(1)) // 127 sides are empty: None each time
	tape := &sha.Tape{}
	Prove(tape, low(0), two...)
	want := slices.Repeat([][]byte{{4}}, 127)
	checkNotes(t, tape, append(want, append([]byte{2}, accountBytes(two[1])...))...)
}

// Of each number, whether it has an account or not, the proof is the words', and leads to the Root.
func TestProveAndClimbAll(t *testing.T) {
	there, beside, empty := 0, 0, 0
	for _, l := range sets() {
		root := Root(nil, 0, l...)
		for _, id := range asked(l) {
			p := checkProve(t, id, l)
			if h, ok := checkClimb(t, id, p); !ok || h != root {
				t.Errorf("of %x among %d: %x, %v; want %x", id, len(l), h, ok, root)
			}
			i := slices.IndexFunc(l, func(a api.Account) bool { return a.ID == id })
			switch {
			case i >= 0:
				there++
				if !p.There || p.Account != l[i] {
					t.Errorf("of %x: %v", id, p)
				}
			case p.There:
				beside++
				if p.Account.ID == id || !slices.Contains(l, p.Account) {
					t.Errorf("none of %x: %v", id, p)
				}
			default:
				empty++
				if p.Account != (api.Account{}) {
					t.Errorf("none of %x: %v", id, p)
				}
			}
		}
	}
	if there < 1000 || beside < 1000 || empty < 1000 {
		t.Errorf("too few of a kind: %d, %d, %d", there, beside, empty)
	}
}

// few: lists whose proofs are changed in each way.
func few() [][]api.Account {
	return [][]api.Account{
		accounts(low(1), one(0)),
		accounts(low(1), low(2), low(3)),
		accounts(low(0), low(1), one(125), turnedNum(one(0), 1), maxNum()),
		accounts(turnedNum(maxNum(), 127), maxNum()),
		accounts(low(4), one(90), one(70), one(30), turnedNum(one(30), 31), one(2), one(1), one(0)),
	}
}

func TestClimbPathsChanged(t *testing.T) {
	for _, l := range few() {
		root := Root(nil, 0, l...)
		for _, id := range asked(l) {
			p := Prove(nil, id, l...)
			for at := range p.Path {
				q := p
				q.Path = slices.Clone(p.Path)
				q.Path[at] = turned(q.Path[at], 3*at+len(l))
				elsewhere(t, "a hash changed", id, q, root)
				q.Path[at] = api.Hash{}
				elsewhere(t, "a hash of noughts", id, q, root)
				if at > 0 && p.Path[at] != p.Path[at-1] {
					q.Path = slices.Clone(p.Path)
					q.Path[at], q.Path[at-1] = q.Path[at-1], q.Path[at]
					elsewhere(t, "two hashes changed about", id, q, root)
				}
			}
		}
	}
}

func TestClimbPathsShorter(t *testing.T) {
	for _, l := range few() {
		root := Root(nil, 0, l...)
		for _, id := range asked(l) {
			p := Prove(nil, id, l...)
			for n := range p.Path {
				elsewhere(t, "the last ones left out", id, Proof{p.There, p.Account, p.Path[:n]}, root)
				elsewhere(t, "the first ones left out", id, Proof{p.There, p.Account, p.Path[len(p.Path)-n:]}, root)
			}
		}
	}
}

// longer: a path with hashes behind it, up to so many in all.
func longer(path []api.Hash, n int) []api.Hash {
	l := slices.Clone(path)
	for len(l) < n {
		l = append(l, sha256.Sum256([]byte{byte(len(l)), byte(len(l) >> 8)}))
	}
	return l
}

func TestClimbPathsLonger(t *testing.T) {
	for _, l := range few() {
		root := Root(nil, 0, l...)
		for _, a := range l {
			p := Prove(nil, a.ID, l...)
			for n := len(p.Path) + 1; n <= bitCount; n++ {
				elsewhere(t, "longer", a.ID, Proof{true, a, longer(p.Path, n)}, root)
			}
			ahead := append([]api.Hash{None(nil)}, p.Path...)
			if len(ahead) <= bitCount {
				elsewhere(t, "one more ahead", a.ID, Proof{true, a, ahead}, root)
			}
		}
	}
}

func TestClimbLongerThanAllBits(t *testing.T) {
	for _, a := range append(accounts(low(0), low(1), one(0), maxNum()), api.Account{}) {
		checkClimb(t, a.ID, Proof{true, a, longer(nil, bitCount)})
		if h, ok := checkClimb(t, a.ID, Proof{Path: longer(nil, bitCount)}); !ok || h == (api.Hash{}) {
			t.Errorf("of %x: 128 hashes: %x, %v", a.ID, h, ok)
		}
		if h, ok := checkClimb(t, a.ID, Proof{true, a, longer(nil, bitCount)}); !ok || h == (api.Hash{}) {
			t.Errorf("of %x: an account, 128 hashes: %x, %v", a.ID, h, ok)
		}
		for _, n := range []int{129, 130, 255, 256, 257, 5000} {
			refused(t, "too long", a.ID, Proof{true, a, longer(nil, n)})
			refused(t, "too long, no account", a.ID, Proof{Path: longer(nil, n)})
			refused(t, "hashes of noughts, too long", a.ID, Proof{Path: make([]api.Hash, n)})
		}
	}
	two := accounts(low(0), low(1)) // a right path of just 128
	for _, a := range two {
		p := Prove(nil, a.ID, two...)
		if h, ok := checkClimb(t, a.ID, p); len(p.Path) != bitCount || !ok || h != Root(nil, 0, two...) {
			t.Errorf("of %x: %d hashes, %x, %v", a.ID, len(p.Path), h, ok)
		}
		refused(t, "one more", a.ID, Proof{true, a, append(slices.Clone(p.Path), None(nil))})
	}
}

func TestClimbOtherAccounts(t *testing.T) {
	for _, l := range few() {
		root := Root(nil, 0, l...)
		for _, a := range l {
			p := Prove(nil, a.ID, l...)
			richer := p
			richer.Account.CreditsPosted.Lo ^= 1
			elsewhere(t, "another sum", a.ID, richer, root)
			closed := p
			closed.Account.Flags ^= api.Closed
			elsewhere(t, "another flag", a.ID, closed, root)
			for _, b := range l {
				if b != a {
					refused(t, "another one of the tree", a.ID, Proof{true, b, p.Path})
				}
			}
			elsewhere(t, "no account", a.ID, Proof{Path: p.Path}, root)
		}
		for _, id := range asked(l) {
			if p := Prove(nil, id, l...); !p.There {
				elsewhere(t, "an account that isn't there", id, Proof{true, account(id), p.Path}, root)
			}
		}
	}
}

// A proof of a number, taken for another one: of one that parts on the way it is none, or leads elsewhere; behind that it is one for all.
func TestClimbOtherNumbers(t *testing.T) {
	for _, l := range few() {
		root := Root(nil, 0, l...)
		for _, id := range asked(l) {
			p := Prove(nil, id, l...)
			for at := range bitCount {
				other := turnedNum(id, at)
				switch {
				case at >= len(p.Path):
					if h, ok := checkClimb(t, other, p); !ok || h != root {
						t.Errorf("bit %d, behind the path: %x, %v", at, h, ok)
					}
				case p.There:
					refused(t, "another number", other, p)
				default:
					elsewhere(t, "another number, none there", other, p, root)
				}
			}
		}
	}
}

func TestClimbAccountsThatPart(t *testing.T) {
	for _, n := range []int{0, 1, 2, 63, 64, 65, 127, 128} {
		for _, id := range []api.Num{low(0), low(1), one(0), maxNum(), {Hi: 0x5555555555555555, Lo: 0xaaaaaaaaaaaaaaaa}} {
			path := longer(nil, n)
			same, ok := checkClimb(t, id, Proof{true, account(id), path})
			if !ok {
				t.Errorf("of %x, %d hashes", id, n)
			}
			for at := range bitCount {
				p := Proof{true, account(turnedNum(id, at)), path}
				if at < n {
					refused(t, "it parts on the way", id, p)
				} else {
					elsewhere(t, "it parts behind the way", id, p, same)
				}
			}
		}
	}
}

func TestClimbAccountWithoutThere(t *testing.T) {
	for _, l := range append(few(), accounts(low(3))) {
		for _, id := range asked(l) {
			p := Prove(nil, id, l...)
			refused(t, "a whole account", id, Proof{false, account(id), p.Path})
			for _, a := range []api.Account{
				{ID: low(1)}, {ID: one(0)}, {Ledger: 1}, {Ledger: -1}, {Flags: 1}, {DebitsPending: low(1)}, {DebitsPosted: one(0)},
				{CreditsPending: low(1)}, {CreditsPosted: low(1)}, {Time: 1}, {Rows: 1}, {Root: api.Hash{31: 1}},
			} {
				refused(t, "a part of an account", id, Proof{false, a, p.Path})
				refused(t, "a part of an account, no path", id, Proof{false, a, nil})
			}
		}
	}
}

// There, but no account told: that is one of the number 0, without anything.
func TestClimbThereWithoutAccount(t *testing.T) {
	for n := range bitCount + 1 {
		p := Proof{There: true, Path: longer(nil, n)}
		if h, ok := checkClimb(t, low(0), p); !ok || h == (api.Hash{}) {
			t.Errorf("of 0, %d hashes: %x, %v", n, h, ok)
		}
		empty, _ := checkClimb(t, low(0), Proof{Path: p.Path})
		elsewhere(t, "an account of noughts isn't none", low(0), p, empty)
		for at := range bitCount {
			if _, ok := checkClimb(t, one(at), p); ok != (at >= n) {
				t.Errorf("of bit %d, %d hashes: %v", at, n, ok)
			}
		}
	}
	if h, ok := Climb(nil, maxNum(), Proof{There: true}); !ok || h != Leaf(nil, api.Account{}) {
		t.Errorf("no path: %x, %v", h, ok)
	}
}

func TestClimbNoProof(t *testing.T) {
	for _, id := range asked(nil) {
		for _, p := range []Proof{{}, {Path: []api.Hash{}}} {
			if h, ok := checkClimb(t, id, p); !ok || h != None(nil) {
				t.Errorf("of %x: %x, %v", id, h, ok)
			}
		}
	}
}

// A list with room behind it, so that what is laid there is seen.
type roomy[E comparable] struct{ all, was []E }

func room[E comparable](l []E, behind ...E) (roomy[E], []E) {
	all := slices.Concat(l, behind)
	return roomy[E]{all, slices.Clone(all)}, all[:len(l)]
}

func (r roomy[E]) check(t *testing.T, what string) {
	t.Helper()
	if !slices.Equal(r.all, r.was) {
		t.Error(what, "changed what was handed in")
	}
}

func TestWhatIsHandedInStays(t *testing.T) {
	behind := accounts(low(100), low(101), low(102))
	for _, set := range append(few(), accounts(low(3), low(2), low(1))) {
		kept, l := room(set, behind...)
		for _, at := range []int{-2, 0, 1, 126, 128} {
			Root(&sha.Tape{}, at, l...)
			kept.check(t, "Root")
		}
		for _, id := range asked(l) {
			p := Prove(&sha.Tape{}, id, l...)
			kept.check(t, "Prove")
			keptPath, path := room(p.Path, longer(nil, 3)...)
			p.Path = path
			Climb(&sha.Tape{}, id, p)
			Climb(&sha.Tape{}, turnedNum(id, 0), p)
			keptPath.check(t, "Climb")
		}
	}
}

// What is answered is new memory: to change it changes neither what was handed in nor another answer.
func TestWhatIsAnsweredIsNew(t *testing.T) {
	for _, l := range few() {
		was := slices.Clone(l)
		for _, id := range asked(l) {
			want := new(model).prove(id, l)
			p, q := Prove(nil, id, l...), Prove(nil, id, l...)
			p.Account.Ledger++
			for at := range p.Path {
				p.Path[at] = api.Hash{}
			}
			_ = append(p.Path, api.Hash{1})
			if !slices.Equal(l, was) || !sameProof(q, want) || !sameProof(Prove(nil, id, l...), want) {
				t.Errorf("of %x: changed by another answer", id)
			}
		}
	}
}

// Nothing that is handed in is kept: notes and answers stay when it is changed.
func TestWhatIsHandedInIsNotKept(t *testing.T) {
	l := accounts(low(1), low(2), low(3), one(0))
	x, tape := &model{}, &sha.Tape{}
	x.root(0, l)
	root := Root(tape, 0, l...)
	want := x.prove(low(3), l)
	p := Prove(tape, low(3), l...)
	x.climb(low(3), want)
	given := Proof{want.There, want.Account, slices.Clone(want.Path)}
	h, ok := Climb(tape, low(3), given)
	clear(l)
	clear(given.Path)
	checkNotes(t, tape, x.notes...)
	if !sameProof(p, want) || !ok || h != root {
		t.Error("answers are changed")
	}
}
