package rows

import (
	"bytes"
	"crypto/sha256"
	"encoding/binary"
	"math"
	"math/rand"
	"slices"
	"testing"

	"pacioli/api"
	"pacioli/history"
	"pacioli/sha"
	"pacioli/wire"
)

// Every test here is one of P10.1; that none of these calls panics or goes on for ever is P0.

// some: lists of up to so many rows are looked at whole: powers of two, and one less, one more, are among them.
const some = 35

// row: no two of them are alike.
func row(n int) api.Row {
	num := func(n int) api.Num { return api.Num{Hi: uint64(n) << 40, Lo: uint64(n)} }
	return api.Row{
		Transfer: num(7*n + 1), Time: 3 * n, Event: n%256 - 1, Amount: num(7*n + 2),
		DebitsPending: num(7*n + 3), DebitsPosted: num(7*n + 4), CreditsPending: num(7*n + 5), CreditsPosted: num(7*n + 6),
	}
}

// strange: rows that no engine makes.
func strange() []api.Row {
	top := api.Num{Hi: math.MaxUint64, Lo: math.MaxUint64}
	return []api.Row{
		{},
		{Time: -1, Event: -2},
		{Time: math.MaxInt, Event: math.MaxInt},
		{Time: math.MinInt, Event: math.MinInt},
		{Transfer: top, Amount: top, DebitsPending: top, DebitsPosted: top, CreditsPending: top, CreditsPosted: top},
	}
}

// sampleRows: n of them.
func sampleRows(n int) []api.Row {
	var l []api.Row
	for i := range n {
		l = append(l, row(i))
	}
	return l
}

func listOf(l ...api.Row) *List {
	x := &List{}
	for _, r := range l {
		x.Add(r)
	}
	return x
}

// timed: a list whose rows have these times, each with another ID.
func timed(times ...int) *List {
	x := &List{}
	for i, time := range times {
		x.Add(api.Row{Transfer: api.Num{Lo: uint64(i + 1)}, Time: time})
	}
	return x
}

// rowBytes: the words of layer 3 once more.
func rowBytes(r api.Row) []byte {
	var b []byte
	num := func(n api.Num) {
		b = binary.BigEndian.AppendUint64(b, n.Hi)
		b = binary.BigEndian.AppendUint64(b, n.Lo)
	}
	num(r.Transfer)
	b = append(b, binary.BigEndian.AppendUint64(nil, uint64(r.Time))[2:]...)
	b = binary.BigEndian.AppendUint16(b, uint16(r.Event+1))
	for _, n := range []api.Num{r.Amount, r.DebitsPending, r.DebitsPosted, r.CreditsPending, r.CreditsPosted} {
		num(n)
	}
	return b
}

// leafNote: what is hashed of a row.
func leafNote(r api.Row) []byte { return append([]byte{0}, rowBytes(r)...) }

// A model is rows' hashes, and what is hashed for their root, leaves and nodes, by the words of layer 6.
type model struct{ notes [][]byte }

func (m *model) hash(b []byte) api.Hash {
	m.notes = append(m.notes, b)
	return sha256.Sum256(b)
}

func (m *model) root(l []api.Row) api.Hash {
	if len(l) == 0 {
		return m.hash(nil)
	}
	if len(l) == 1 {
		return m.hash(leafNote(l[0]))
	}
	k := 1
	for k < len(l)-k {
		k += k
	}
	a, b := m.root(l[:k]), m.root(l[k:])
	return m.hash(slices.Concat([]byte{1}, a[:], b[:]))
}

func notes(t *sha.Tape) [][]byte { return slices.Collect(t.All) }

func sorted(l [][]byte) [][]byte {
	l = slices.Clone(l)
	slices.SortFunc(l, bytes.Compare)
	return l
}

func alike(a, b [][]byte) bool { return slices.EqualFunc(a, b, bytes.Equal) }

func times(l []api.Row) []int {
	var out []int
	for _, r := range l {
		out = append(out, r.Time)
	}
	return out
}

// checkRoot: is the root that of these rows, with a tape and without, and is all that it is made of noted, each once, ahead of what is made of it?
func checkRoot(t *testing.T, x *List, l []api.Row) {
	t.Helper()
	var m model
	want := m.root(l)
	tape := &sha.Tape{}
	if x.Root(tape) != want || x.Root(nil) != want {
		t.Fatal("another root", len(l))
	}
	if !alike(sorted(notes(tape)), sorted(m.notes)) {
		t.Fatal("other notes", len(l), tape.Len(), len(m.notes))
	}
	made := map[api.Hash]int{}
	for _, b := range notes(tape) {
		if len(b) == 65 && b[0] == 1 && (made[api.Hash(b[1:33])] == 0 || made[api.Hash(b[33:])] == 0) {
			t.Fatal("a node is noted ahead of what it is made of", len(l))
		}
		made[sha256.Sum256(b)]++
	}
}

// checkPaths: does each row's path lead to the root, and nothing else to it?
func checkPaths(t *testing.T, x *List, l []api.Row) {
	t.Helper()
	root := x.Root(nil)
	for i := range l {
		path := x.Path(i)
		for at, r := range l {
			for place := range l {
				h, ok := history.Climb(nil, history.Leaf(nil, wire.Row(r)), place, len(l), path...)
				if right := at == i && place == i; right != (ok && h == root) {
					t.Fatal(len(l), "path", i, "row", at, "place", place, ok)
				}
			}
		}
	}
}

// spanOf: a span's words, row by row.
func spanOf(times []int, from, to, limit int) (int, int) {
	first := len(times)
	for i := len(times) - 1; i >= 0; i-- {
		if times[i] >= from {
			first = i
		}
	}
	count := 0
	for _, time := range times[first:] {
		if time <= to {
			count++
		}
	}
	return first, max(0, min(count, limit))
}

func checkSpan(t *testing.T, x *List, times []int, from, to, limit int) {
	t.Helper()
	first, count := x.Span(from, to, limit)
	wantFirst, wantCount := spanOf(times, from, to, limit)
	if first != wantFirst || count != wantCount {
		t.Fatal(times, "from", from, "to", to, "limit", limit, "tells", first, count, "not", wantFirst, wantCount)
	}
}

// edges: each time, what is just ahead of it and just behind it, and the least and the greatest int.
func edges(times []int) []int {
	l := []int{math.MinInt, math.MinInt + 1, -1, 0, 1, math.MaxInt - 1, math.MaxInt}
	for _, time := range times {
		l = append(l, time)
		if time > math.MinInt {
			l = append(l, time-1)
		}
		if time < math.MaxInt {
			l = append(l, time+1)
		}
	}
	slices.Sort(l)
	return slices.Compact(l)
}

// checkSpans: every span from one edge to another one, with limits of all kinds.
func checkSpans(t *testing.T, x *List, times []int) {
	t.Helper()
	limits := []int{math.MinInt, math.MinInt + 1, -2, -1, math.MaxInt - 1, math.MaxInt}
	for limit := range len(times) + 3 {
		limits = append(limits, limit)
	}
	for _, from := range edges(times) {
		for _, to := range edges(times) {
			for _, limit := range limits {
				checkSpan(t, x, times, from, to, limit)
			}
		}
	}
}

// checkList: is a list these rows, whatever it is asked?
func checkList(t *testing.T, x *List, l []api.Row) {
	t.Helper()
	if x.Len() != len(l) {
		t.Fatal("has", x.Len(), "not", len(l))
	}
	for i, r := range l {
		if x.At(i) != r {
			t.Fatal("at", i, x.At(i), "not", r)
		}
	}
	checkRoot(t, x, l)
	for i, r := range l {
		h, ok := history.Climb(nil, history.Leaf(nil, wire.Row(r)), i, len(l), x.Path(i)...)
		if !ok || h != x.Root(nil) {
			t.Fatal("path", i, "of", len(l))
		}
	}
	for _, from := range []int{math.MinInt, 0, 4, 6, 7, math.MaxInt} {
		for _, to := range []int{math.MinInt, 0, 5, 9, 10, math.MaxInt} {
			checkSpan(t, x, times(l), from, to, 2)
			checkSpan(t, x, times(l), from, to, math.MaxInt)
		}
	}
}

func TestExample(t *testing.T) {
	x := timed(2, 5, 9)
	if first, count := x.Span(3, 9, 1); first != 1 || count != 1 {
		t.Fatal(first, count)
	}
}

func TestNobodys(t *testing.T) {
	var x List
	none := api.Hash(sha256.Sum256(nil))
	if x.Len() != 0 || x.Root(nil) != none {
		t.Fatal(x.Len(), x.Root(nil))
	}
	tape := &sha.Tape{}
	if x.Root(tape) != none || !alike(notes(tape), [][]byte{nil}) {
		t.Fatal(notes(tape))
	}
	for _, from := range edges(nil) {
		for _, to := range edges(nil) {
			for _, limit := range edges(nil) {
				if first, count := x.Span(from, to, limit); first != 0 || count != 0 {
					t.Fatal(from, to, limit, first, count)
				}
			}
		}
	}
	y := x.Copy()
	checkList(t, y, nil)
	y.Add(row(1))
	checkList(t, &x, nil)
	checkList(t, y, []api.Row{row(1)})
	x.Add(row(2))
	checkList(t, &x, []api.Row{row(2)})
	checkList(t, y, []api.Row{row(1)})
}

func TestRowByRow(t *testing.T) {
	var x List
	var l []api.Row
	for n := range 60 {
		if x.Len() != n {
			t.Fatal(x.Len(), "not", n)
		}
		for i, r := range l {
			if x.At(i) != r {
				t.Fatal(i, x.At(i), "not", r)
			}
		}
		r := row(n)
		x.Add(r)
		l = append(l, r)
	}
	if x.Len() != 60 {
		t.Fatal(x.Len())
	}
}

// Asking changes nothing.
func TestAskedAgain(t *testing.T) {
	l := sampleRows(9)
	x := listOf(l...)
	for range 3 {
		checkList(t, x, l)
	}
}

func TestLeaf(t *testing.T) {
	for _, r := range append(sampleRows(some), strange()...) {
		want := history.Leaf(nil, wire.Row(r))
		if Leaf(nil, r) != want || want != sha256.Sum256(leafNote(r)) {
			t.Fatal("another leaf", r)
		}
		tape := &sha.Tape{}
		sha.Of(tape, []byte("ahead"))
		if Leaf(tape, r) != want {
			t.Fatal("another leaf on a tape", r)
		}
		if !alike(notes(tape), [][]byte{[]byte("ahead"), leafNote(r)}) {
			t.Fatal(notes(tape))
		}
	}
}

// A row that parts in one of its fields has another leaf.
func TestLeafOfEachField(t *testing.T) {
	a := row(5)
	parted := []api.Row{a, a, a, a, a, a, a, a}
	parted[0].Transfer.Lo++
	parted[1].Time++
	parted[2].Event++
	parted[3].Amount.Hi++
	parted[4].DebitsPending.Lo++
	parted[5].DebitsPosted.Hi++
	parted[6].CreditsPending.Lo++
	parted[7].CreditsPosted.Hi++
	seen := map[api.Hash]int{Leaf(nil, a): 1}
	for _, r := range parted {
		h := Leaf(nil, r)
		if seen[h]++; seen[h] > 1 {
			t.Fatal("one leaf of two rows", r)
		}
	}
}

func TestRoot(t *testing.T) {
	sizes := []int{63, 64, 65, 127, 128, 129, 300}
	for n := range some {
		sizes = append(sizes, n)
	}
	for _, n := range sizes {
		l := sampleRows(n)
		x := listOf(l...)
		checkRoot(t, x, l)
		var leaves []api.Hash
		for _, r := range l {
			leaves = append(leaves, history.Leaf(nil, wire.Row(r)))
		}
		if x.Root(nil) != history.Root(nil, leaves...) {
			t.Fatal("not layer 6's root", n)
		}
	}
}

// Rows that are alike are leaves of their own.
func TestRootOfTwins(t *testing.T) {
	for n := range 9 {
		l := slices.Repeat([]api.Row{row(4)}, n)
		checkRoot(t, listOf(l...), l)
	}
	checkRoot(t, listOf(strange()...), strange())
}

// All is noted on each tape, whatever was asked for ahead, with a tape or without one.
func TestTapes(t *testing.T) {
	for n := range 18 {
		l := sampleRows(n)
		var m model
		m.root(l)
		want := sorted(m.notes)
		for way := range 8 {
			x := &List{}
			for i, r := range l {
				x.Add(r)
				if way&1 != 0 && i%2 == 0 {
					x.Root(nil)
				}
				if way&2 != 0 && i%3 == 0 {
					x.Root(&sha.Tape{})
				}
				if way&4 != 0 {
					x.Path(i)
				}
			}
			if way&1 != 0 {
				x.Root(nil)
			}
			for range 2 {
				tape := &sha.Tape{}
				x.Root(tape)
				if !alike(sorted(notes(tape)), want) {
					t.Fatal(n, way, tape.Len(), len(want))
				}
			}
			tape := &sha.Tape{}
			x.Copy().Root(tape)
			if !alike(sorted(notes(tape)), want) {
				t.Fatal("of a copy", n, way, tape.Len(), len(want))
			}
		}
	}
}

// Asked for twice on one tape all is noted twice, behind what was on it.
func TestOneTapeTwice(t *testing.T) {
	for n := range 10 {
		l := sampleRows(n)
		x := listOf(l...)
		var m model
		m.root(l)
		tape := &sha.Tape{}
		sha.Of(tape, []byte("ahead"))
		x.Root(tape)
		x.Root(tape)
		all := notes(tape)
		if len(all) != 1+2*len(m.notes) || string(all[0]) != "ahead" {
			t.Fatal(n, len(all))
		}
		if half := 1 + len(m.notes); !alike(sorted(all[1:half]), sorted(m.notes)) || !alike(sorted(all[half:]), sorted(m.notes)) {
			t.Fatal(n, "not all was noted each time")
		}
	}
}

func TestPath(t *testing.T) {
	for n := range 18 {
		l := sampleRows(n)
		checkPaths(t, listOf(l...), l)
	}
	for _, n := range []int{31, 32, 33, 100} {
		x := listOf(sampleRows(n)...)
		var leaves []api.Hash
		for i := range n {
			leaves = append(leaves, Leaf(nil, row(i)))
		}
		for i := range n {
			want, _ := history.Path(nil, i, leaves...)
			if !slices.Equal(x.Path(i), want) {
				t.Fatal(n, i)
			}
			h, ok := history.Climb(nil, leaves[i], i, n, x.Path(i)...)
			if !ok || h != x.Root(nil) {
				t.Fatal(n, i, ok)
			}
		}
	}
}

// A path is new memory: who changes it changes no list.
func TestPathIsHis(t *testing.T) {
	l := sampleRows(7)
	x := listOf(l...)
	for i := range l {
		path := x.Path(i)
		want := slices.Clone(path)
		for at := range path {
			path[at] = api.Hash{}
		}
		if !slices.Equal(x.Path(i), want) {
			t.Fatal(i)
		}
	}
	checkList(t, x, l)
}

// Of rows that there aren't nothing is said but that the call ends.
func TestNoSuchRow(t *testing.T) {
	for n := range 5 {
		x := listOf(sampleRows(n)...)
		for _, i := range []int{n, n + 1, -1, math.MaxInt, math.MinInt} {
			if x.At(i) != (api.Row{}) || len(x.Path(i)) != 0 {
				t.Fatal(n, i, x.At(i), x.Path(i))
			}
		}
		checkList(t, x, sampleRows(n))
	}
}

func TestSpan(t *testing.T) {
	x := timed(2, 5, 9)
	for _, c := range []struct{ from, to, limit, first, count int }{
		{0, 99, 9, 0, 3}, // from ahead of the first one
		{2, 9, 9, 0, 3},  // just at one
		{5, 9, 9, 1, 2},
		{9, 9, 9, 2, 1},
		{3, 9, 9, 1, 2}, // between two
		{6, 9, 9, 2, 1},
		{10, 99, 9, 3, 0}, // behind the last one
		{5, 4, 9, 1, 0},   // to ahead of from
		{9, 0, 9, 2, 0},
		{0, 5, 9, 0, 2},  // just at one
		{0, 4, 9, 0, 1},  // between two
		{3, 4, 9, 1, 0},  // both
		{0, 1, 9, 0, 0},  // ahead of the first one
		{0, 99, 0, 0, 0}, // limits
		{0, 99, -1, 0, 0},
		{0, 99, 2, 0, 2},
		{0, 99, 3, 0, 3},
		{6, 99, 0, 2, 0},
		{10, 99, -1, 3, 0},
		{math.MinInt, math.MaxInt, math.MaxInt, 0, 3}, // edges
		{math.MinInt, math.MaxInt, math.MinInt, 0, 0},
		{math.MaxInt, math.MaxInt, math.MaxInt, 3, 0},
		{math.MaxInt, math.MinInt, math.MaxInt, 3, 0},
		{math.MinInt, math.MinInt, math.MaxInt, 0, 0},
		{9, math.MaxInt, math.MaxInt, 2, 1},
		{math.MinInt, 5, math.MaxInt, 0, 2},
		{math.MinInt + 1, math.MaxInt - 1, 1000, 0, 3},
		{math.MaxInt - 1, math.MaxInt, math.MaxInt, 3, 0},
	} {
		if first, count := x.Span(c.from, c.to, c.limit); first != c.first || count != c.count {
			t.Fatal(c, first, count)
		}
	}
}

func TestSpans(t *testing.T) {
	for _, times := range [][]int{
		nil,
		{0},
		{7},
		{2, 5, 9},
		{1, 2, 3, 4},
		{-3, 0, 3},
		{4, 4, 4},
		{1, 4, 4, 4, 6, 6, 9},
		{math.MinInt, 0, math.MaxInt},
		{math.MinInt, math.MinInt, math.MaxInt, math.MaxInt},
	} {
		checkSpans(t, timed(times...), times)
	}
}

func TestSpansOfSome(t *testing.T) {
	r := rand.New(rand.NewSource(10))
	for range 200 {
		var times []int
		time := r.Intn(5) - 2
		for range r.Intn(60) {
			times = append(times, time)
			time += r.Intn(4)
		}
		x := timed(times...)
		for range 200 {
			checkSpan(t, x, times, r.Intn(time+6)-4, r.Intn(time+6)-4, r.Intn(len(times)+4)-2)
		}
	}
}

// What is in a span are just the rows that have such times.
func TestSpanRows(t *testing.T) {
	x := timed(1, 4, 4, 4, 6, 6, 9)
	first, count := x.Span(4, 6, 4)
	var ids []uint64
	for i := range count {
		ids = append(ids, x.At(first+i).Transfer.Lo)
	}
	if !slices.Equal(ids, []uint64{2, 3, 4, 5}) {
		t.Fatal(ids)
	}
}

func TestCopy(t *testing.T) {
	for n := range some {
		l := sampleRows(n)
		x := listOf(l...)
		y := x.Copy()
		checkList(t, y, l)
		mine, his := slices.Clone(l), slices.Clone(l)
		for i := range 5 {
			x.Add(row(100 + i))
			mine = append(mine, row(100+i))
			if i%2 == 0 {
				y.Add(row(200 + i))
				his = append(his, row(200+i))
			}
		}
		checkList(t, x, mine)
		checkList(t, y, his)
		z := y.Copy()
		y.Add(row(300))
		z.Add(row(400))
		checkList(t, x, mine)
		checkList(t, y, append(slices.Clone(his), row(300)))
		checkList(t, z, append(slices.Clone(his), row(400)))
	}
}

// Rows are added to the copy alone, or to the other one alone.
func TestCopyOneSided(t *testing.T) {
	for n := range 10 {
		l := sampleRows(n)
		x := listOf(l...)
		x.Root(nil)
		y := x.Copy()
		y.Add(row(50))
		checkList(t, x, l)
		checkList(t, y, append(sampleRows(n), row(50)))
		x = listOf(l...)
		y = x.Copy()
		x.Add(row(51))
		checkList(t, y, l)
		checkList(t, x, append(sampleRows(n), row(51)))
		checkPaths(t, x, append(sampleRows(n), row(51)))
		checkPaths(t, y, l)
	}
}

// Lists and their copies, in any order of calls, against plain lists.
func TestManyCopies(t *testing.T) {
	r := rand.New(rand.NewSource(11))
	for range 40 {
		lists, want := []*List{{}}, [][]api.Row{nil}
		for step := range 60 {
			at := r.Intn(len(lists))
			switch r.Intn(5) {
			case 0:
				lists = append(lists, lists[at].Copy())
				want = append(want, slices.Clone(want[at]))
			case 1:
				lists[at].Root(nil)
			default:
				lists[at].Add(row(step))
				want[at] = append(want[at], row(step))
			}
		}
		for at, x := range lists {
			checkList(t, x, want[at])
		}
	}
}
