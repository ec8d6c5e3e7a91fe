package wire

import (
	"bytes"
	"encoding/binary"
	"math"
	"math/rand"
	"slices"
	"testing"

	"pacioli/api"
	"pacioli/u128"
)

// Every test here is one of P3.1; that none of these calls panics is P0.

const (
	accountBytes = 130
	rowBytes     = 104
)

// rising: n bytes, each one more than the one ahead of it.
func rising(first byte, n int) []byte {
	b := make([]byte, n)
	for i := range b {
		b[i] = first + byte(i)
	}
	return b
}

// num: the number whose bytes rise.
func num(first byte) api.Num {
	b := rising(first, 16)
	return api.Num{Hi: binary.BigEndian.Uint64(b), Lo: binary.BigEndian.Uint64(b[8:])}
}

// hash: the one whose bytes rise.
func hash(first byte) api.Hash { return api.Hash(rising(first, 32)) }

// join: bytes, one behind the other.
func join(l ...[]byte) []byte { return bytes.Join(l, nil) }

// risingAccount: the one whose bytes are 1, 2, 3 and so on, by the order and the widths that the chapter tells.
func risingAccount() api.Account {
	return api.Account{
		ID: num(1), Ledger: 0x11121314, Flags: 0x1516,
		DebitsPending: num(23), DebitsPosted: num(39), CreditsPending: num(55), CreditsPosted: num(71),
		Time: 0x5758595a5b5c, Rows: 0x5d5e5f606162, Root: hash(99),
	}
}

// risingRow: the one whose bytes are 1, 2, 3 and so on.
func risingRow() api.Row {
	return api.Row{
		Transfer: num(1), Time: 0x111213141516, Event: 0x1718 - 1, Amount: num(25),
		DebitsPending: num(41), DebitsPosted: num(57), CreditsPending: num(73), CreditsPosted: num(89),
	}
}

// told: what a request tells of an account.
func told(first byte) api.Account {
	return api.Account{ID: num(first), Ledger: 0xfedcba98, Flags: 0xfffe}
}

// toldTransfer: what a request tells of a transfer.
func toldTransfer(first byte) api.Transfer {
	return api.Transfer{
		ID: num(first), Debit: num(first + 16), Credit: num(first + 32), Amount: num(first + 48), PendingID: num(first + 64),
		Timeout: 0x81828384, Ledger: 0xf5f6f7f8, Flags: 0xe9ea,
	}
}

type requestCase struct {
	name string
	q    api.Request
	b    []byte
}

// requests: each kind, and its bytes as the chapter has them.
func requests() []requestCase {
	ledgerAndFlags := []byte{0xfe, 0xdc, 0xba, 0x98, 0xff, 0xfe}
	behind := []byte{0x81, 0x82, 0x83, 0x84, 0xf5, 0xf6, 0xf7, 0xf8, 0xe9, 0xea}
	span := []byte{0xf1, 0xf2, 0xf3, 0xf4, 0xf5, 0xf6, 0xe1, 0xe2, 0xe3, 0xe4, 0xe5, 0xe6, 0xd1}
	all := api.Request{ID: num(1), From: 0xf1f2f3f4f5f6, To: 0xe1e2e3e4e5e6, Limit: 0xd1}
	of := func(kind int) api.Request { q := all; q.Kind = kind; return q }
	return []requestCase{
		{"no accounts", api.Request{Kind: 1}, []byte{1, 0}},
		{"an account", api.Request{Kind: 1, Accounts: []api.Account{told(7)}},
			join([]byte{1, 1}, rising(7, 16), ledgerAndFlags)},
		{"two accounts", api.Request{Kind: 1, Accounts: []api.Account{told(7), told(200)}},
			join([]byte{1, 2}, rising(7, 16), ledgerAndFlags, rising(200, 16), ledgerAndFlags)},
		{"no transfers", api.Request{Kind: 2}, []byte{2, 0}},
		{"a transfer", api.Request{Kind: 2, Transfers: []api.Transfer{toldTransfer(3)}},
			join([]byte{2, 1}, rising(3, 80), behind)},
		{"two transfers", api.Request{Kind: 2, Transfers: []api.Transfer{toldTransfer(3), toldTransfer(101)}},
			join([]byte{2, 2}, rising(3, 80), behind, rising(101, 80), behind)},
		{"a tick", api.Request{Kind: 3, From: 7}, []byte{3, 0, 0, 0, 7}},
		{"a late tick", api.Request{Kind: 3, From: math.MaxUint32}, []byte{3, 255, 255, 255, 255}},
		{"find an account", api.Request{Kind: 4, ID: num(1)}, join([]byte{4}, rising(1, 16))},
		{"find a transfer", api.Request{Kind: 5, ID: num(1)}, join([]byte{5}, rising(1, 16))},
		{"a statement", of(6), join([]byte{6}, rising(1, 16), span)},
		{"prove an account", api.Request{Kind: 7, ID: num(1)}, join([]byte{7}, rising(1, 16))},
		{"prove rows", of(8), join([]byte{8}, rising(1, 16), span)},
		{"prove growth", api.Request{Kind: 9, From: 0xf1f2f3f4, To: 5}, []byte{9, 0xf1, 0xf2, 0xf3, 0xf4, 0, 0, 0, 5}},
	}
}

// same: are these one request? An empty list may be nil or not.
func same(a, b api.Request) bool {
	return a.Kind == b.Kind && a.ID == b.ID && a.From == b.From && a.To == b.To && a.Limit == b.Limit &&
		slices.Equal(a.Accounts, b.Accounts) && slices.Equal(a.Transfers, b.Transfers)
}

// refused: do these bytes have just this error, and no request beside it?
func refused(t *testing.T, b []byte, want api.Errno) {
	t.Helper()
	if q, err := ReadRequest(b); err != want || !same(q, api.Request{}) {
		t.Errorf("ReadRequest(%x): %v, %v; want %v", b, q, err, want)
	}
}

func TestExample(t *testing.T) {
	q, err := ReadRequest([]byte{3, 0, 0, 0, 7})
	if err != api.OK || !same(q, api.Request{Kind: api.Tick, From: 7}) {
		t.Error(q, err)
	}
	if b := Request(q); !bytes.Equal(b, []byte{3, 0, 0, 0, 7}) {
		t.Error(b)
	}
}

func TestWriterOfNobodyIsEmpty(t *testing.T) {
	var w Writer
	if b := w.Bytes(); len(b) != 0 {
		t.Error(b)
	}
	if b := new(Writer).Int(3).Raw().Num().Hash().Raw(nil, []byte{}).Bytes(); len(b) != 0 {
		t.Error("nothing, laid:", b)
	}
}

func TestWriterIntLaysTheLowest(t *testing.T) {
	numbers := []int{0, 1, 2, 127, 128, 254, 255, 256, 257, -1, -2, -128, -129, -256, 0x0102030405060708, math.MaxInt, math.MinInt, math.MaxInt - 1, math.MinInt + 1}
	for n := 1; n <= 7; n++ {
		edge := 1 << (8 * n)
		numbers = append(numbers, edge-2, edge-1, edge, edge+1, edge/2-1, edge/2, -edge, -edge-1, -edge+1)
	}
	for n := 1; n <= 8; n++ {
		for _, x := range numbers {
			var whole [8]byte
			binary.BigEndian.PutUint64(whole[:], uint64(x))
			if got := new(Writer).Int(n, x).Bytes(); !bytes.Equal(got, whole[8-n:]) {
				t.Errorf("Int(%d, %d): %x, want %x", n, x, got, whole[8-n:])
			}
		}
	}
}

func TestWriterIntOfSeveral(t *testing.T) {
	for _, c := range []struct {
		n    int
		x    []int
		want []byte
	}{
		{1, []int{1, 2, 300, -1}, []byte{1, 2, 44, 255}},
		{2, []int{258, 1}, []byte{1, 2, 0, 1}},
		{3, []int{0x010203, 0x040506, 0}, []byte{1, 2, 3, 4, 5, 6, 0, 0, 0}},
		{8, []int{0x0102030405060708, -2}, []byte{1, 2, 3, 4, 5, 6, 7, 8, 255, 255, 255, 255, 255, 255, 255, 254}},
		{4, nil, nil},
	} {
		if got := new(Writer).Int(c.n, c.x...).Bytes(); !bytes.Equal(got, c.want) {
			t.Errorf("Int(%d, %v): %v, want %v", c.n, c.x, got, c.want)
		}
	}
}

func TestWriterRawNumHash(t *testing.T) {
	cases := []struct {
		name string
		w    *Writer
		want []byte
	}{
		{"Raw", new(Writer).Raw([]byte{1, 2, 3}), []byte{1, 2, 3}},
		{"Raw of several", new(Writer).Raw([]byte{1}, nil, []byte{}, []byte{2, 3}), []byte{1, 2, 3}},
		{"Num", new(Writer).Num(num(1)), rising(1, 16)},
		{"Num of several", new(Writer).Num(num(1), num(17), api.Num{}), join(rising(1, 32), make([]byte, 16))},
		{"Num of the greatest", new(Writer).Num(u128.Max(), u128.Of(1)), join(bytes.Repeat([]byte{255}, 16), make([]byte, 15), []byte{1})},
		{"Hash", new(Writer).Hash(hash(5)), rising(5, 32)},
		{"Hash of several", new(Writer).Hash(hash(5), api.Hash{}, hash(37)), join(rising(5, 32), make([]byte, 32), rising(37, 32))},
	}
	for _, c := range cases {
		if got := c.w.Bytes(); !bytes.Equal(got, c.want) {
			t.Errorf("%s: %x, want %x", c.name, got, c.want)
		}
	}
}

func TestWriterBehindSeveralCalls(t *testing.T) {
	w := &Writer{}
	var want []byte
	steps := []struct {
		lay  func() *Writer
		more []byte
	}{
		{func() *Writer { return w.Int(2, 258) }, []byte{1, 2}},
		{func() *Writer { return w.Raw([]byte{9, 8}, []byte{7}) }, []byte{9, 8, 7}},
		{func() *Writer { return w.Num(num(40)) }, rising(40, 16)},
		{func() *Writer { return w.Int(4) }, nil},
		{func() *Writer { return w.Hash(hash(60)) }, rising(60, 32)},
		{func() *Writer { return w.Raw() }, nil},
		{func() *Writer { return w.Int(1, 5, 6).Num(num(2)).Raw([]byte{3}) }, join([]byte{5, 6}, rising(2, 16), []byte{3})},
	}
	for i, s := range steps {
		if got := s.lay(); got != w {
			t.Errorf("step %d answers another writer", i)
		}
		want = append(want, s.more...)
		for range 2 { // being asked changes nothing
			if got := w.Bytes(); !bytes.Equal(got, want) {
				t.Errorf("step %d: %x, want %x", i, got, want)
			}
		}
	}
}

func TestWriterBytesAreNewMemory(t *testing.T) {
	w := new(Writer).Raw([]byte{1, 2, 3})
	first := w.Bytes()
	first[0] = 99
	_ = append(first[:1], 98, 97, 96, 95)
	if got := w.Bytes(); !bytes.Equal(got, []byte{1, 2, 3}) {
		t.Error("what was answered is the writer's own:", got)
	}
	second := w.Bytes()
	w.Int(1, 4)
	if !bytes.Equal(second, []byte{1, 2, 3}) || !bytes.Equal(w.Bytes(), []byte{1, 2, 3, 4}) {
		t.Error(second, w.Bytes())
	}
	v := new(Writer).Raw([]byte{7})
	if !bytes.Equal(w.Bytes(), []byte{1, 2, 3, 4}) || !bytes.Equal(v.Bytes(), []byte{7}) {
		t.Error("two writers:", w.Bytes(), v.Bytes())
	}
}

func TestReaderIntAtEdges(t *testing.T) {
	for n := 1; n <= 7; n++ {
		edge := 1 << (8 * n)
		for _, x := range []int{0, 1, 127, 128, 255, edge / 2, edge/2 - 1, edge - 2, edge - 1, 0x0102030405060708 % edge} {
			var whole [8]byte
			binary.BigEndian.PutUint64(whole[:], uint64(x))
			r := New(whole[8-n:])
			if got := r.Int(n); got != x || r.Bad() || !r.Done() {
				t.Errorf("Int(%d) of %x: %d, want %d; Bad %v, Done %v", n, whole[8-n:], got, x, r.Bad(), r.Done())
			}
		}
	}
}

func TestReaderReadsOneBehindTheOther(t *testing.T) {
	r := New(join([]byte{1, 2, 3}, rising(10, 16), rising(100, 32), rising(1, accountBytes), rising(1, rowBytes), []byte{255}))
	checks := []bool{
		r.Int(2) == 258, r.Int(1) == 3, r.Num() == num(10), r.Hash() == hash(100),
		r.ReadAccount() == risingAccount(), r.ReadRow() == risingRow(),
		!r.Done(), !r.Bad(), r.Int(1) == 255, r.Done(), !r.Bad(),
	}
	if at := slices.Index(checks, false); at >= 0 {
		t.Error("the first that is wrong:", at)
	}
}

func TestReaderOfNoBytes(t *testing.T) {
	for _, b := range [][]byte{nil, {}, make([]byte, 0, 64)} {
		r := New(b)
		if !r.Done() || r.Bad() {
			t.Error("at first:", r.Done(), r.Bad())
		}
		if r.Int(1) != 0 || r.Done() || !r.Bad() {
			t.Error("behind a read:", r.Done(), r.Bad())
		}
	}
}

type reading struct {
	name string
	n    int
	read func(r *Reader) any
	zero any
	want any // of rising bytes from 1 on
}

// readings: each of the reader's calls.
func readings() []reading {
	l := []reading{
		{"Num", 16, func(r *Reader) any { return r.Num() }, api.Num{}, num(1)},
		{"Hash", 32, func(r *Reader) any { return r.Hash() }, api.Hash{}, hash(1)},
		{"ReadAccount", accountBytes, func(r *Reader) any { return r.ReadAccount() }, api.Account{}, risingAccount()},
		{"ReadRow", rowBytes, func(r *Reader) any { return r.ReadRow() }, api.Row{Event: -1}, risingRow()},
	}
	for n := 1; n <= 7; n++ {
		want := 0x01020304050607 >> (8 * (7 - n))
		l = append(l, reading{"Int", n, func(r *Reader) any { return r.Int(n) }, 0, want})
	}
	return l
}

func TestReaderJustEnough(t *testing.T) {
	for _, c := range readings() {
		for _, more := range []int{0, 1, 50} {
			r := New(rising(1, c.n+more))
			if got := c.read(r); got != c.want || r.Bad() || r.Done() != (more == 0) {
				t.Errorf("%s of %d bytes and %d: %v, want %v; Bad %v, Done %v", c.name, c.n, more, got, c.want, r.Bad(), r.Done())
			}
		}
	}
}

// Numbers and hashes, which are read as one: zeros, though some of their bytes are there.
func TestReaderTooFew(t *testing.T) {
	for _, c := range readings() {
		if c.n > 32 {
			continue // they are read part by part: below
		}
		for have := range c.n {
			r := New(rising(1, have))
			if got := c.read(r); got != c.zero || !r.Bad() || r.Done() {
				t.Errorf("%s of %d bytes, %d there: %v; Bad %v, Done %v", c.name, c.n, have, got, r.Bad(), r.Done())
			}
		}
	}
}

func TestReaderZerosFromThenOn(t *testing.T) {
	for _, c := range readings() {
		// 200 bytes are left, more than anything needs: but one read came to too few.
		r := New(bytes.Repeat([]byte{255}, 200))
		r.Int(1 << 20)
		if !r.Bad() || r.Done() {
			t.Errorf("too few: Bad %v, Done %v", r.Bad(), r.Done())
		}
		for range 3 {
			if got := c.read(r); got != c.zero || !r.Bad() || r.Done() {
				t.Errorf("%s from then on: %v; Bad %v, Done %v", c.name, got, r.Bad(), r.Done())
			}
		}
	}
	r := New([]byte{1, 2, 3, 4})
	if r.Int(3) != 0x010203 || r.Int(2) != 0 || r.Int(1) != 0 || !r.Bad() || r.Done() {
		t.Error("the byte that is left is read")
	}
	r = New(rising(1, 20))
	if r.Hash() != (api.Hash{}) || r.Num() != (api.Num{}) || r.Int(4) != 0 || !r.Bad() || r.Done() {
		t.Error("the bytes that are left are read")
	}
}

// cutAccount: an account without what stands behind its first n bytes, whole parts only.
func cutAccount(a api.Account, n int) api.Account {
	var c api.Account
	end := 0
	for _, part := range []struct {
		width int
		keep  func()
	}{
		{16, func() { c.ID = a.ID }}, {4, func() { c.Ledger = a.Ledger }}, {2, func() { c.Flags = a.Flags }},
		{16, func() { c.DebitsPending = a.DebitsPending }}, {16, func() { c.DebitsPosted = a.DebitsPosted }},
		{16, func() { c.CreditsPending = a.CreditsPending }}, {16, func() { c.CreditsPosted = a.CreditsPosted }},
		{6, func() { c.Time = a.Time }}, {6, func() { c.Rows = a.Rows }}, {32, func() { c.Root = a.Root }},
	} {
		if end += part.width; end <= n {
			part.keep()
		}
	}
	return c
}

// cutRow: likewise a row.
func cutRow(x api.Row, n int) api.Row {
	c := api.Row{Event: -1}
	end := 0
	for _, part := range []struct {
		width int
		keep  func()
	}{
		{16, func() { c.Transfer = x.Transfer }}, {6, func() { c.Time = x.Time }}, {2, func() { c.Event = x.Event }},
		{16, func() { c.Amount = x.Amount }},
		{16, func() { c.DebitsPending = x.DebitsPending }}, {16, func() { c.DebitsPosted = x.DebitsPosted }},
		{16, func() { c.CreditsPending = x.CreditsPending }}, {16, func() { c.CreditsPosted = x.CreditsPosted }},
	} {
		if end += part.width; end <= n {
			part.keep()
		}
	}
	return c
}

func TestReadAccountAndRowCutShort(t *testing.T) {
	for n := range accountBytes {
		r := New(rising(1, n))
		if got, want := r.ReadAccount(), cutAccount(risingAccount(), n); got != want || !r.Bad() || r.Done() {
			t.Errorf("an account of %d bytes: %v, want %v; Bad %v, Done %v", n, got, want, r.Bad(), r.Done())
		}
	}
	for n := range rowBytes {
		r := New(rising(1, n))
		if got, want := r.ReadRow(), cutRow(risingRow(), n); got != want || !r.Bad() || r.Done() {
			t.Errorf("a row of %d bytes: %v, want %v; Bad %v, Done %v", n, got, want, r.Bad(), r.Done())
		}
	}
}

func TestAccountBytes(t *testing.T) {
	if got := Account(risingAccount()); !bytes.Equal(got, rising(1, accountBytes)) {
		t.Errorf("%x", got)
	}
	if got := Account(api.Account{}); !bytes.Equal(got, make([]byte, accountBytes)) {
		t.Errorf("of zeros: %x", got)
	}
	full := bytes.Repeat([]byte{255}, accountBytes)
	greatest := api.Account{
		ID: u128.Max(), Ledger: math.MaxUint32, Flags: math.MaxUint16,
		DebitsPending: u128.Max(), DebitsPosted: u128.Max(), CreditsPending: u128.Max(), CreditsPosted: u128.Max(),
		Time: 1<<48 - 1, Rows: 1<<48 - 1, Root: api.Hash(full[:32]),
	}
	if got := Account(greatest); !bytes.Equal(got, full) {
		t.Errorf("of the greatest: %x", got)
	}
	if got := New(full).ReadAccount(); got != greatest {
		t.Errorf("the greatest, read: %v", got)
	}
	if got := New(make([]byte, accountBytes)).ReadAccount(); got != (api.Account{}) {
		t.Errorf("zeros, read: %v", got)
	}
}

func TestRowBytes(t *testing.T) {
	if got := Row(risingRow()); !bytes.Equal(got, rising(1, rowBytes)) {
		t.Errorf("%x", got)
	}
	full := bytes.Repeat([]byte{255}, rowBytes)
	greatest := api.Row{
		Transfer: u128.Max(), Time: 1<<48 - 1, Event: math.MaxUint16 - 1, Amount: u128.Max(),
		DebitsPending: u128.Max(), DebitsPosted: u128.Max(), CreditsPending: u128.Max(), CreditsPosted: u128.Max(),
	}
	if got := Row(greatest); !bytes.Equal(got, full) {
		t.Errorf("of the greatest: %x", got)
	}
	if got := New(full).ReadRow(); got != greatest {
		t.Errorf("the greatest, read: %v", got)
	}
}

func TestRowEvents(t *testing.T) {
	for _, c := range []struct {
		event int
		want  [2]byte
	}{{-1, [2]byte{0, 0}}, {0, [2]byte{0, 1}}, {1, [2]byte{0, 2}}, {254, [2]byte{0, 255}}, {255, [2]byte{1, 0}}, {65534, [2]byte{255, 255}}} {
		b := Row(api.Row{Event: c.event})
		want := make([]byte, rowBytes)
		copy(want[22:], c.want[:])
		if !bytes.Equal(b, want) {
			t.Errorf("Event %d: %x", c.event, b)
		}
		r := New(want)
		if got := r.ReadRow(); got != (api.Row{Event: c.event}) || !r.Done() {
			t.Errorf("Event %d, read: %v", c.event, got)
		}
	}
}

func TestEachKindThereAndBack(t *testing.T) {
	seen := map[int]bool{}
	for _, c := range requests() {
		seen[c.q.Kind] = true
		if got := Request(c.q); !bytes.Equal(got, c.b) {
			t.Errorf("%s: %x, want %x", c.name, got, c.b)
		}
		if got, err := ReadRequest(c.b); err != api.OK || !same(got, c.q) {
			t.Errorf("%s, read: %v, %v; want %v", c.name, got, err, c.q)
		}
	}
	if len(seen) != 9 {
		t.Error("kinds:", seen)
	}
}

func TestRequestsAtTheEdgesOfTheirNumbers(t *testing.T) {
	for kind := 3; kind <= 9; kind++ {
		for _, fill := range []byte{0, 1, 127, 128, 255} {
			for _, c := range requests() {
				if c.q.Kind != kind {
					continue
				}
				b := bytes.Repeat([]byte{fill}, len(c.b))
				b[0] = byte(kind)
				q, err := ReadRequest(b)
				if err != api.OK || q.From < 0 || q.To < 0 || q.Limit < 0 {
					t.Errorf("%x: %v, %v", b, q, err)
				}
				if got := Request(q); !bytes.Equal(got, b) {
					t.Errorf("%x, there and back: %x", b, got)
				}
			}
		}
	}
	for _, q := range []api.Request{
		{Kind: 6, ID: u128.Max(), From: 1<<48 - 1, To: 1<<48 - 1, Limit: 255},
		{Kind: 8, ID: u128.Of(1), From: 1 << 47, To: 0, Limit: 128},
		{Kind: 8}, {Kind: 9}, {Kind: 3}, {Kind: 4}, {Kind: 9, From: math.MaxUint32, To: 1 << 31},
		{Kind: 1, Accounts: []api.Account{{}, {Ledger: math.MaxUint32, Flags: math.MaxUint16, ID: u128.Max()}}},
		{Kind: 2, Transfers: []api.Transfer{{}, {Timeout: math.MaxUint32, Ledger: 1 << 31, Flags: math.MaxUint16, PendingID: u128.Max()}}},
	} {
		if got, err := ReadRequest(Request(q)); err != api.OK || !same(got, q) {
			t.Errorf("%v: %v, %v", q, got, err)
		}
	}
}

// A request tells of its kind's fields alone, and of events just what is told there.
func TestWhatIsNotToldIsNotThere(t *testing.T) {
	a, x := risingAccount(), toldTransfer(3)
	x.Time, x.Tick, x.State = 11, 12, api.Expired
	all := api.Request{Accounts: []api.Account{a}, Transfers: []api.Transfer{x}, ID: num(1), From: 3, To: 4, Limit: 5}
	wants := map[int]api.Request{
		1: {Accounts: []api.Account{{ID: a.ID, Ledger: a.Ledger, Flags: a.Flags}}},
		2: {Transfers: []api.Transfer{toldTransfer(3)}},
		3: {From: 3}, 4: {ID: num(1)}, 5: {ID: num(1)},
		6: {ID: num(1), From: 3, To: 4, Limit: 5},
		7: {ID: num(1)},
		8: {ID: num(1), From: 3, To: 4, Limit: 5},
		9: {From: 3, To: 4},
	}
	for kind, want := range wants {
		all.Kind, want.Kind = kind, kind
		if got, err := ReadRequest(Request(all)); err != api.OK || !same(got, want) {
			t.Errorf("kind %d: %v, %v; want %v", kind, got, err, want)
		}
	}
}

func TestRequestsCutShort(t *testing.T) {
	for _, c := range requests() {
		for n := range c.b {
			refused(t, c.b[:n], api.ErrForm)
			refused(t, c.b[:n:n], api.ErrForm)
		}
	}
}

func TestRequestsWithMoreBehind(t *testing.T) {
	for _, c := range requests() {
		for _, more := range [][]byte{{0}, {255}, {1, 0}, make([]byte, 22), make([]byte, 90), c.b} {
			refused(t, join(c.b, more), api.ErrForm)
		}
	}
}

func TestKindsThatAreNone(t *testing.T) {
	refused(t, nil, api.ErrForm)
	refused(t, []byte{}, api.ErrForm)
	for kind := range 256 {
		if kind >= 1 && kind <= 9 {
			continue
		}
		for _, n := range []int{0, 1, 4, 8, 16, 23, 29, 91, 1000} {
			refused(t, join([]byte{byte(kind)}, make([]byte, n)), api.ErrForm)
			refused(t, join([]byte{byte(kind)}, rising(9, n)), api.ErrForm)
		}
		for _, c := range requests() {
			b := bytes.Clone(c.b)
			b[0] = byte(kind)
			refused(t, b, api.ErrForm)
		}
	}
}

func TestMaxBatchEventsAndOneMore(t *testing.T) {
	for n := range 256 {
		accounts := api.Request{Kind: 1}
		transfers := api.Request{Kind: 2}
		for i := range n {
			accounts.Accounts = append(accounts.Accounts, told(byte(i)))
			transfers.Transfers = append(transfers.Transfers, toldTransfer(byte(i)))
		}
		for _, q := range []api.Request{accounts, transfers} {
			b := Request(q)
			width := map[int]int{1: 22, 2: 90}[q.Kind]
			if len(b) != 2+n*width || b[0] != byte(q.Kind) || b[1] != byte(n) {
				t.Fatalf("kind %d, %d events: %d bytes", q.Kind, n, len(b))
			}
			if n > 8 {
				refused(t, b, api.ErrLong)
				continue
			}
			if got, err := ReadRequest(b); err != api.OK || !same(got, q) {
				t.Errorf("kind %d, %d events: %v, %v", q.Kind, n, got, err)
			}
		}
	}
}

// Too many that are told are too many, whatever of them is there: of two errors the one that is named first.
func TestTooManyAheadOfTooFew(t *testing.T) {
	for _, kind := range []byte{1, 2} {
		for count := 9; count < 256; count++ {
			for _, n := range []int{0, 1, 22, 90, 9 * 22, 9*22 + 1, 9 * 90, 9*90 + 1, 5000} {
				refused(t, join([]byte{kind, byte(count)}, make([]byte, n)), api.ErrLong)
			}
		}
		refused(t, []byte{kind}, api.ErrForm)
		refused(t, []byte{kind, 8}, api.ErrForm)
	}
	for _, kind := range []byte{0, 3, 4, 5, 6, 7, 8, 9, 10, 255} {
		refused(t, []byte{kind, 9}, api.ErrForm)
	}
}

// Of any bytes: either they are those of what is read, or nothing is.
func TestReadRequestOfAnyBytes(t *testing.T) {
	check := func(b []byte) {
		q, err := ReadRequest(b)
		switch err {
		case api.OK:
			if got := Request(q); !bytes.Equal(got, b) {
				t.Errorf("%x: read as %v, whose bytes are %x", b, q, got)
			}
		case api.ErrLong, api.ErrForm:
			if !same(q, api.Request{}) {
				t.Errorf("%x: %v beside %v", b, q, err)
			}
		default:
			t.Errorf("%x: %v", b, err)
		}
	}
	for first := range 256 {
		check([]byte{byte(first)})
		for second := range 256 {
			check([]byte{byte(first), byte(second)})
		}
	}
	random := rand.New(rand.NewSource(3))
	lengths := []int{2, 5, 9, 17, 24, 30, 46, 92, 182, 722}
	for range 20000 {
		b := make([]byte, lengths[random.Intn(len(lengths))]+random.Intn(3)/2)
		random.Read(b)
		b[0] %= 11
		if b[0] < 3 {
			b[1] %= 10
		}
		check(b)
	}
}

func TestWhatIsHandedToAReaderIsNotKept(t *testing.T) {
	b := join(rising(1, accountBytes), rising(1, rowBytes))
	was := bytes.Clone(b)
	r := New(b)
	clear(b)
	if r.ReadAccount() != risingAccount() || r.ReadRow() != risingRow() || !r.Done() {
		t.Error("what was handed in was changed, and the reader saw it")
	}
	copy(b, was)
	r = New(b[:20])
	r.Num()
	r.Int(4)
	r.ReadAccount()
	if !bytes.Equal(b, was) {
		t.Error("what was handed in is changed")
	}
	// What counts is how long it is, not how long it could be.
	if r := New(b[:1:8]); r.Int(2) != 0 || !r.Bad() {
		t.Error("what stands behind the bytes is read")
	}
}

func TestWhatIsHandedToAWriterIsNotKept(t *testing.T) {
	backing := []byte{1, 2, 3, 4}
	pieces := [][]byte{backing[:2], backing[2:3]}
	numbers, nums, hashes := []int{5, 6}, []api.Num{num(1)}, []api.Hash{hash(1)}
	w := new(Writer).Raw(pieces...).Int(1, numbers...).Num(nums...).Hash(hashes...).Raw([]byte{9})
	want := join([]byte{1, 2, 3, 5, 6}, rising(1, 16), rising(1, 32), []byte{9})
	if !bytes.Equal(backing, []byte{1, 2, 3, 4}) || len(pieces) != 2 || len(pieces[0]) != 2 || len(pieces[1]) != 1 ||
		numbers[0] != 5 || numbers[1] != 6 || nums[0] != num(1) || hashes[0] != hash(1) {
		t.Error("what was handed in is changed")
	}
	clear(backing)
	clear(pieces)
	clear(numbers)
	clear(nums)
	clear(hashes)
	if got := w.Bytes(); !bytes.Equal(got, want) {
		t.Errorf("what was handed in is kept: %x, want %x", got, want)
	}
	first := []byte{1, 2, 3, 4}
	new(Writer).Raw(first[:1]).Raw([]byte{8, 8})
	if !bytes.Equal(first, []byte{1, 2, 3, 4}) {
		t.Error("the first piece is written over:", first)
	}
}

func TestRequestsAreNotChangedAndNotKept(t *testing.T) {
	for _, c := range requests() {
		q := c.q
		q.Accounts, q.Transfers = slices.Clone(q.Accounts), slices.Clone(q.Transfers)
		b := Request(q)
		if !same(q, c.q) {
			t.Errorf("%s: Request changed it to %v", c.name, q)
		}
		clear(q.Accounts)
		clear(q.Transfers)
		if !bytes.Equal(b, c.b) {
			t.Errorf("%s: Request kept it", c.name)
		}
		got, _ := ReadRequest(b)
		if !bytes.Equal(b, c.b) {
			t.Errorf("%s: ReadRequest changed it", c.name)
		}
		clear(b)
		if !same(got, c.q) {
			t.Errorf("%s: ReadRequest kept it", c.name)
		}
		if again := Request(c.q); !bytes.Equal(again, c.b) {
			t.Errorf("%s: what was answered is shared", c.name)
		}
	}
}

// Beyond the widths and numbers that the chapter tells nothing is said of the answers, but that there is one.
func TestNothingPanics(t *testing.T) {
	widths := []int{math.MinInt, -9, -8, -1, 0, 8, 9, 10, 64, 1 << 20, 1 << 32, 1 << 62, math.MaxInt}
	for _, n := range widths {
		new(Writer).Int(n).Int(n, 0, -1, math.MaxInt, math.MinInt).Bytes()
		for _, have := range []int{0, 1, 8, 9, 100} {
			r := New(rising(1, have))
			r.Int(n)
			r.Int(n)
			r.Done()
			r.Bad()
		}
	}
	for _, x := range []int{math.MinInt, -2, -1, 1 << 48, math.MaxInt} {
		Account(api.Account{Ledger: x, Flags: x, Time: x, Rows: x})
		Row(api.Row{Time: x, Event: x})
		for _, kind := range []int{math.MinInt, -255, -1, 0, 1, 2, 3, 6, 9, 10, 255, 256, 257, 259, math.MaxInt} {
			for _, n := range []int{0, 1, 9, 255, 256, 257, 1000} {
				q := api.Request{Kind: kind, From: x, To: x, Limit: x, Accounts: make([]api.Account, n), Transfers: make([]api.Transfer, n)}
				ReadRequest(Request(q))
			}
		}
	}
}
