package digest

import (
	"bytes"
	"crypto/sha256"
	"encoding/binary"
	"math/bits"
	"slices"
	"testing"

	"pacioli/api"
	"pacioli/sha"
)

// A batch, as it is added, and what the chapters' words make of it.
type batch struct {
	bytes    []byte
	accounts []api.Account
	st, leaf api.Hash
}

func batchOf(b []byte, l []api.Account) batch {
	st := stateRoot(0, l)
	return batch{bytes: b, accounts: l, st: st, leaf: hash([]byte{0}, st[:], b)}
}

// A model is the batches, whole; roots, digests and growths are made anew whenever they are asked for.
type model []batch

func hash(parts ...[]byte) api.Hash { return sha256.Sum256(bytes.Join(parts, nil)) }

// fourBytes: of a number the lowest four, the highest first.
func fourBytes(n int) []byte { return binary.BigEndian.AppendUint32(nil, uint32(n)) }

// numBytes: a number's sixteen, the highest first.
func numBytes(a api.Num) []byte {
	return binary.BigEndian.AppendUint64(binary.BigEndian.AppendUint64(nil, a.Hi), a.Lo)
}

// accountBytes: an account's bytes, as chapter 3 has them.
func accountBytes(a api.Account) []byte {
	b := append(numBytes(a.ID), fourBytes(a.Ledger)...)
	b = binary.BigEndian.AppendUint16(b, uint16(a.Flags))
	for _, n := range []api.Num{a.DebitsPending, a.DebitsPosted, a.CreditsPending, a.CreditsPosted} {
		b = append(b, numBytes(n)...)
	}
	for _, n := range []int{a.Time, a.Rows} {
		b = append(b, binary.BigEndian.AppendUint64(nil, uint64(n))[2:]...)
	}
	return append(b, a.Root[:]...)
}

// stateRoot: that of accounts from a bit on, as chapter 7 has it.
func stateRoot(at int, l []api.Account) api.Hash {
	switch len(l) {
	case 0:
		return hash([]byte{4})
	case 1:
		return hash([]byte{2}, accountBytes(l[0]))
	}
	side := func(bit byte) []api.Account {
		return slices.DeleteFunc(slices.Clone(l), func(a api.Account) bool {
			return numBytes(a.ID)[at/8]>>(7-at%8)&1 != bit
		})
	}
	without, with := stateRoot(at+1, side(0)), stateRoot(at+1, side(1))
	return hash([]byte{3}, without[:], with[:])
}

// logRoot: that of leaves, as RFC 6962 has it.
func logRoot(l []api.Hash) api.Hash {
	switch len(l) {
	case 0:
		return hash()
	case 1:
		return l[0]
	}
	k := 1
	for k < len(l)-k {
		k += k
	}
	a, b := logRoot(l[:k]), logRoot(l[k:])
	return hash([]byte{1}, a[:], b[:])
}

// subproof: SUBPROOF of RFC 6962 (2.1.2); known tells that the first m leaves are the old tree.
func subproof(m int, l []api.Hash, known bool) []api.Hash {
	if m == len(l) && known {
		return nil
	}
	if m == len(l) {
		return []api.Hash{logRoot(l)}
	}
	k := 1 << (bits.Len(uint(len(l)-1)) - 1)
	if m <= k {
		return append(subproof(m, l[:k], known), logRoot(l[k:]))
	}
	return append(subproof(m-k, l[k:], false), logRoot(l[:k]))
}

func (m model) leaves() []api.Hash {
	var l []api.Hash
	for _, b := range m {
		l = append(l, b.leaf)
	}
	return l
}

func (m model) roots(n int) (api.Hash, api.Hash) {
	st := stateRoot(0, nil)
	if n > 0 {
		st = m[n-1].st
	}
	return logRoot(m[:n].leaves()), st
}

func (m model) at(n int) api.Hash {
	log, st := m.roots(n)
	return hash([]byte{5}, fourBytes(n), log[:], st[:])
}

func (m model) growth(from, to int) []api.Hash {
	if from == 0 {
		return nil
	}
	return subproof(from, m[:to].leaves(), true)
}

// chain: one of all these batches.
func (m model) chain() *Chain {
	c := New()
	for _, b := range m {
		c.Add(b.bytes, b.accounts...)
	}
	return c
}

func num(n int) api.Num { return api.Num{Hi: uint64(n) << 60, Lo: uint64(n)} }

// account: one that has some of everything, the more the greater n is.
func account(n int) api.Account {
	return api.Account{
		ID: api.Num{Hi: uint64(n) >> 3, Lo: uint64(n)}, Ledger: 1 + n, Flags: n % 16,
		DebitsPending: num(n + 1), DebitsPosted: num(n + 2), CreditsPending: num(n + 3), CreditsPosted: num(n + 4),
		Time: n + 5, Rows: n + 6, Root: hash([]byte{byte(n)}),
	}
}

// accounts: n of them, rising, told as they are behind some batch.
func accounts(n, behind int) []api.Account {
	var l []api.Account
	for i := range n {
		a := account(i + 1)
		a.Time += behind
		l = append(l, a)
	}
	return l
}

// sample: n batches, of no bytes, of one, of many, with no accounts, one, many; most of them unlike.
func sample(n int) model {
	var m model
	for i := range n {
		b := bytes.Repeat([]byte{byte(i), byte(i >> 8)}, []int{0, 1, 3, 40, 100}[i%5])
		m = append(m, batchOf(b[:max(0, len(b)-i%2)], accounts([]int{0, 1, 2, 7, 1, 5, 9}[i%7], i)))
	}
	return m
}

func notes(t *sha.Tape) [][]byte { return slices.Collect(t.All) }

// checkNotes holds what is on a tape against a list.
func checkNotes(t *testing.T, tape *sha.Tape, want ...[]byte) {
	t.Helper()
	if got := notes(tape); !slices.EqualFunc(got, want, bytes.Equal) {
		t.Fatalf("noted: %x, not %x", got, want)
	}
}

// checkBehind: is what is told of the first n batches what the model has?
func checkBehind(t *testing.T, c *Chain, m model, n int) {
	t.Helper()
	wantLog, wantState := m.roots(n)
	log, st, ok := c.Roots(n)
	if !ok || log != wantLog || st != wantState {
		t.Fatalf("Roots(%d) of %d: %x, %x, %v, not %x, %x", n, len(m), log, st, ok, wantLog, wantState)
	}
	h, ok := c.At(n)
	if !ok || h != m.at(n) {
		t.Fatalf("At(%d) of %d: %x, %v, not %x", n, len(m), h, ok, m.at(n))
	}
	if h != Of(nil, n, log, st) {
		t.Fatalf("At(%d) of %d isn't Of its Roots", n, len(m))
	}
}

// checkNone: is nothing told of n batches, which there aren't?
func checkNone(t *testing.T, c *Chain, n int) {
	t.Helper()
	zero := api.Hash{}
	if log, st, ok := c.Roots(n); ok || log != zero || st != zero {
		t.Fatalf("Roots(%d) of %d: %x, %x, %v", n, c.Len(), log, st, ok)
	}
	if h, ok := c.At(n); ok || h != zero {
		t.Fatalf("At(%d) of %d: %x, %v", n, c.Len(), h, ok)
	}
}

// checkNoGrowth: there is none between so many and so many.
func checkNoGrowth(t *testing.T, c *Chain, from, to int) {
	t.Helper()
	if path, ok := c.Growth(from, to); ok || len(path) != 0 {
		t.Fatalf("Growth(%d, %d) of %d: %x, %v", from, to, c.Len(), path, ok)
	}
}

// checkAll: does a chain tell what the model has, whatever it is asked?
func checkAll(t *testing.T, c *Chain, m model) {
	t.Helper()
	if c.Len() != len(m) {
		t.Fatal("Len:", c.Len(), "not", len(m))
	}
	for n := range len(m) + 1 {
		checkBehind(t, c, m, n)
	}
	for _, n := range outside(len(m)) {
		checkNone(t, c, n)
	}
}
