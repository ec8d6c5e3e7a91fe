package history

import (
	"bytes"
	"crypto/sha256"
	"encoding/hex"
	"math"
	"math/rand"
	"slices"
	"testing"

	"pacioli/api"
	"pacioli/sha"
)

// Every test here is one of P6.1; that none of these calls panics or goes on for ever is P0.

// small: trees of up to so many leaves are looked at whole: powers of two, and one less, one more, are among them.
const small = 34

// A model is RFC 6962's words (2.1, 2.1.1, 2.1.2), hash by hash, and what is noted by them.
type model struct{ notes [][]byte }

func (x *model) hash(b ...byte) api.Hash {
	x.notes = append(x.notes, b)
	return sha256.Sum256(b)
}

func (x *model) node(a, b api.Hash) api.Hash {
	return x.hash(slices.Concat([]byte{1}, a[:], b[:])...)
}

// half: the k of the words, found by doubling.
func half(n int) int {
	k := 1
	for k < n-k {
		k += k
	}
	return k
}

func (x *model) root(l []api.Hash) api.Hash {
	if len(l) == 0 {
		return x.hash()
	}
	if len(l) == 1 {
		return l[0]
	}
	k := half(len(l))
	a := x.root(l[:k])
	b := x.root(l[k:])
	return x.node(a, b)
}

func (x *model) path(i int, l []api.Hash) []api.Hash {
	if len(l) == 1 {
		return nil
	}
	if k := half(len(l)); i < k {
		below := x.path(i, l[:k])
		return append(below, x.root(l[k:]))
	} else {
		below := x.path(i-k, l[k:])
		return append(below, x.root(l[:k]))
	}
}

func (x *model) climb(leaf api.Hash, i, n int, path []api.Hash) (api.Hash, bool) {
	if n == 1 {
		return leaf, len(path) == 0
	}
	if len(path) == 0 {
		return api.Hash{}, false
	}
	top, rest := path[len(path)-1], path[:len(path)-1]
	if k := half(n); i < k {
		h, ok := x.climb(leaf, i, k, rest)
		return x.node(h, top), ok
	} else {
		h, ok := x.climb(leaf, i-k, n-k, rest)
		return x.node(top, h), ok
	}
}

// proof: SUBPROOF of the RFC; known tells that the first m leaves are the old tree.
func (x *model) proof(m int, l []api.Hash, known bool) []api.Hash {
	if m == len(l) {
		if known {
			return nil
		}
		return []api.Hash{x.root(l)}
	}
	if k := half(len(l)); m <= k {
		below := x.proof(m, l[:k], known)
		return append(below, x.root(l[k:]))
	} else {
		below := x.proof(m-k, l[k:], false)
		return append(below, x.root(l[:k]))
	}
}

// roots is how RFC 9162 (2.1.4.2) looks into a proof, bit by bit: the roots that it leads to; m is 1 to n - 1. False: it has another length than it must.
func (x *model) roots(m, n int, old api.Hash, path []api.Hash) (api.Hash, api.Hash, bool) {
	if len(path) == 0 {
		return api.Hash{}, api.Hash{}, false
	}
	if m&(m-1) == 0 {
		path = append([]api.Hash{old}, path...)
	}
	a, b := m-1, n-1
	for a&1 == 1 {
		a, b = a>>1, b>>1
	}
	before, behind := path[0], path[0]
	for _, h := range path[1:] {
		if b == 0 {
			return api.Hash{}, api.Hash{}, false
		}
		if a&1 == 1 || a == b {
			before = x.node(h, before)
			behind = x.node(h, behind)
			for a&1 == 0 && a != 0 {
				a, b = a>>1, b>>1
			}
		} else {
			behind = x.node(behind, h)
		}
		a, b = a>>1, b>>1
	}
	return before, behind, b == 0
}

func (x *model) grown(m, n int, old, young api.Hash, path []api.Hash) bool {
	before, behind, ok := x.roots(m, n, old, path)
	return ok && before == old && behind == young
}

// leaves: n hashes, always the same, no two alike.
func leaves(n int) []api.Hash {
	l := make([]api.Hash, n)
	for i := range l {
		l[i] = sha256.Sum256([]byte{0, byte(i), byte(i >> 8)})
	}
	return l
}

// turned: a hash with one bit turned.
func turned(h api.Hash, bit int) api.Hash {
	h[bit/8] ^= 1 << (bit % 8)
	return h
}

// checkNotes holds what is on a tape against a list.
func checkNotes(t *testing.T, tape *sha.Tape, want ...[]byte) {
	t.Helper()
	var got [][]byte
	for b := range tape.All {
		got = append(got, b)
	}
	if !slices.EqualFunc(got, want, bytes.Equal) {
		t.Errorf("noted: %x, want %x", got, want)
	}
}

// checkMade looks whether each node that was noted is made of what is given, or was noted ahead of it.
func checkMade(t *testing.T, tape *sha.Tape, given ...api.Hash) {
	t.Helper()
	known := map[api.Hash]int{}
	for _, h := range given {
		known[h]++
	}
	for b := range tape.All {
		if len(b) != 65 || b[0] != 1 {
			t.Fatalf("noted: %x", b)
		}
		if known[api.Hash(b[1:33])] == 0 || known[api.Hash(b[33:])] == 0 {
			t.Errorf("made of what isn't known yet: %x", b)
		}
		known[sha256.Sum256(b)]++
	}
}

func TestLeafOfBytes(t *testing.T) {
	for _, b := range [][]byte{nil, {}, {0}, {1}, []byte("abc"), make([]byte, 64), bytes.Repeat([]byte{255}, 5000)} {
		whole := append([]byte{0}, b...)
		tape := &sha.Tape{}
		if got := Leaf(tape, b); got != sha256.Sum256(whole) {
			t.Errorf("Leaf(%d bytes): %x", len(b), got)
		}
		checkNotes(t, tape, whole)
		if Leaf(nil, b) != sha256.Sum256(whole) {
			t.Errorf("Leaf(%d bytes) without a tape", len(b))
		}
	}
}

func TestNodeOfTwo(t *testing.T) {
	l := append(leaves(3), api.Hash{})
	for _, a := range l {
		for _, b := range l {
			whole := slices.Concat([]byte{1}, a[:], b[:])
			tape := &sha.Tape{}
			if got := Node(tape, a, b); got != sha256.Sum256(whole) {
				t.Errorf("Node(%x, %x): %x", a, b, got)
			}
			checkNotes(t, tape, whole)
			if Node(nil, a, b) != sha256.Sum256(whole) {
				t.Errorf("Node(%x, %x) without a tape", a, b)
			}
			if Leaf(nil, whole[1:]) == Node(nil, a, b) {
				t.Error("a leaf is a node")
			}
		}
	}
}

// The leaves and roots that are known of RFC 6962's trees from other programs.
func TestRootKnown(t *testing.T) {
	texts := []string{"", "00", "10", "2021", "3031", "40414243", "5051525354555657", "606162636465666768696a6b6c6d6e6f"}
	want := []string{
		"e3b0c44298fc1c149afbf4c8996fb92427ae41e4649b934ca495991b7852b855",
		"6e340b9cffb37a989ca544e6bb780a2c78901d3fb33738768511a30617afa01d",
		"fac54203e7cc696cf0dfcb42c92a1d9dbaf70ad9e621f4bd8d98662f00e3c125",
		"aeb6bcfe274b70a14fb067a5e5578264db0fa9b51af5e0ba159158f329e06e77",
		"d37ee418976dd95753c1c73862b9398fa2a2cf9b4ff0fdfe8b30cd95209614b7",
		"4e3bbb1f7b478dcfe71fb631631519a3bca12c9aefca1612bfce4c13a86264d4",
		"76e67dadbcdf1e10e1b74ddc608abd2f98dfb16fbce75277b5232a127f2087ef",
		"ddb89be403809e325750d3d263cd78929c2942b7942a34b77e122c9594a74c8c",
		"5dc9da79a70659a9ad559cb701ded9a2ab9d823aad2f4960cfe370eff4604328",
	}
	var l []api.Hash
	for n := range want {
		r := Root(nil, l...)
		if got := hex.EncodeToString(r[:]); got != want[n] {
			t.Errorf("of %d: %s, want %s", n, got, want[n])
		}
		if n < len(texts) {
			b, err := hex.DecodeString(texts[n])
			if err != nil {
				t.Fatal(err)
			}
			l = append(l, Leaf(nil, b))
		}
	}
}

func TestRootEveryNumber(t *testing.T) {
	numbers := []int{63, 64, 65, 127, 128, 129, 255, 256, 257, 1023, 1024, 1025}
	for n := range small {
		numbers = append(numbers, n)
	}
	for _, n := range numbers {
		l := leaves(n)
		x, tape := &model{}, &sha.Tape{}
		want := x.root(l)
		if got := Root(tape, l...); got != want {
			t.Errorf("of %d: %x, want %x", n, got, want)
		}
		checkNotes(t, tape, x.notes...)
		if Root(nil, l...) != want {
			t.Errorf("of %d, without a tape", n)
		}
	}
}

func TestRootNotes(t *testing.T) {
	none := &sha.Tape{}
	Root(none)
	Root(none, []api.Hash{}...)
	checkNotes(t, none, nil, nil)
	for n := 1; n < small; n++ {
		tape := &sha.Tape{}
		Root(tape, leaves(n)...)
		if tape.Len() != n-1 {
			t.Errorf("of %d leaves: %d are noted", n, tape.Len())
		}
		checkMade(t, tape, leaves(n)...)
	}
}

// Leaves that are the same are nodes of their own, each noted.
func TestRootOfLeavesAlike(t *testing.T) {
	for n := 1; n < small; n++ {
		l := make([]api.Hash, n)
		x, tape := &model{}, &sha.Tape{}
		if got, want := Root(tape, l...), x.root(l); got != want {
			t.Errorf("of %d: %x, want %x", n, got, want)
		}
		if tape.Len() != n-1 {
			t.Errorf("of %d: %d are noted", n, tape.Len())
		}
		checkNotes(t, tape, x.notes...)
	}
}

// What was on a tape stays there; what is noted comes behind it.
func TestTapeGoesOn(t *testing.T) {
	l := leaves(6)
	x, tape := &model{notes: [][]byte{[]byte("ahead")}}, &sha.Tape{}
	sha.Of(tape, []byte("ahead"))
	x.root(l)
	path := x.path(3, l)
	x.climb(l[3], 3, 6, path)
	proof := x.proof(3, l, true)
	old, young := new(model).root(l[:3]), new(model).root(l)
	x.grown(3, 6, old, young, proof)
	Root(tape, l...)
	Path(tape, 3, l...)
	Climb(tape, l[3], 3, 6, path...)
	Growth(tape, 3, l...)
	Grown(tape, 3, 6, old, young, proof...)
	checkNotes(t, tape, x.notes...)
}

func TestPathExample(t *testing.T) {
	l := leaves(3)
	if got, ok := Path(nil, 0, l...); !ok || !slices.Equal(got, l[1:]) {
		t.Errorf("Path of leaf 0 of three: %x, %v", got, ok)
	}
}

func TestPathEveryLeaf(t *testing.T) {
	for n := 1; n < small; n++ {
		l := leaves(n)
		for i := range n {
			x, tape := &model{}, &sha.Tape{}
			want := x.path(i, l)
			if got, ok := Path(tape, i, l...); !ok || !slices.Equal(got, want) {
				t.Errorf("of %d of %d: %x, %v; want %x", i, n, got, ok, want)
			}
			checkNotes(t, tape, x.notes...)
			checkMade(t, tape, l...)
			if tape.Len() != n-1-len(want) { // all nodes but those on the way
				t.Errorf("of %d of %d: %d are noted", i, n, tape.Len())
			}
			if got, ok := Path(nil, i, l...); !ok || !slices.Equal(got, want) {
				t.Errorf("of %d of %d, without a tape: %x, %v", i, n, got, ok)
			}
		}
	}
}

func TestPathOfNoLeaf(t *testing.T) {
	for n := range small {
		for _, i := range []int{-1, -2, n, n + 1, 2 * n, -n - 1, math.MinInt, math.MaxInt} {
			if i >= 0 && i < n {
				continue
			}
			tape := &sha.Tape{}
			if got, ok := Path(tape, i, leaves(n)...); ok || len(got) != 0 {
				t.Errorf("of %d of %d: %x, %v", i, n, got, ok)
			}
			checkNotes(t, tape)
		}
	}
}

// checkClimb holds a climb against the model's, with a tape and without one.
func checkClimb(t *testing.T, leaf api.Hash, i, n int, path []api.Hash) (api.Hash, bool) {
	t.Helper()
	x, tape := &model{}, &sha.Tape{}
	want, may := api.Hash{}, false
	if i >= 0 && i < n {
		want, may = x.climb(leaf, i, n, path)
	}
	got, ok := Climb(tape, leaf, i, n, path...)
	if ok != may || may && got != want {
		t.Errorf("Climb(%d, %d, %d hashes): %x, %v; want %x, %v", i, n, len(path), got, ok, want, may)
	}
	if may {
		checkNotes(t, tape, x.notes...)
	} else {
		checkNotes(t, tape)
	}
	if bare, is := Climb(nil, leaf, i, n, path...); bare != got || is != ok {
		t.Errorf("Climb(%d, %d, %d hashes) without a tape: %x, %v", i, n, len(path), bare, is)
	}
	return got, ok
}

func TestClimbEveryPath(t *testing.T) {
	for n := 1; n < small; n++ {
		l := leaves(n)
		root := new(model).root(l)
		for i, leaf := range l {
			path, _ := Path(nil, i, l...)
			if got, ok := checkClimb(t, leaf, i, n, path); !ok || got != root {
				t.Errorf("of %d of %d: %x, %v; want %x", i, n, got, ok, root)
			}
			if got, ok := checkClimb(t, turned(leaf, i), i, n, path); !ok || got == root {
				t.Errorf("another leaf %d of %d: %x, %v", i, n, got, ok)
			}
			for at := range path {
				other := slices.Clone(path)
				other[at] = turned(other[at], at)
				if got, ok := checkClimb(t, leaf, i, n, other); !ok || got == root {
					t.Errorf("another hash %d beside %d of %d: %x, %v", at, i, n, got, ok)
				}
			}
		}
	}
}

func TestClimbPathsOfOtherLengths(t *testing.T) {
	for n := 1; n < small; n++ {
		l := leaves(n)
		for i, leaf := range l {
			path, _ := Path(nil, i, l...)
			wrong := [][]api.Hash{
				append(slices.Clone(path), leaf),
				append([]api.Hash{leaf}, path...),
				slices.Concat(path, leaves(70)),
			}
			if len(path) > 0 {
				wrong = append(wrong, path[1:], path[:len(path)-1], nil)
			}
			for _, p := range wrong {
				if got, ok := checkClimb(t, leaf, i, n, p); ok {
					t.Errorf("of %d of %d with %d hashes, not %d: %x", i, n, len(p), len(path), got)
				}
			}
		}
	}
}

// Another place, another number of leaves: false, or what the words say of these.
func TestClimbElsewhere(t *testing.T) {
	for n := 1; n < 18; n++ {
		l := leaves(n)
		for i, leaf := range l {
			path, _ := Path(nil, i, l...)
			for j := -2; j < n+3; j++ {
				got, ok := checkClimb(t, leaf, j, n, path)
				if j != i && ok && got == new(model).root(l) {
					t.Errorf("%d climbs to the same root as %d of %d", j, i, n)
				}
			}
			for other := -2; other < small; other++ {
				checkClimb(t, leaf, i, other, path)
			}
		}
	}
}

func TestClimbOutOfRange(t *testing.T) {
	far := []int{math.MinInt, math.MinInt + 1, -2, -1, 0, 1, 2, math.MaxInt - 1, math.MaxInt}
	for _, i := range far {
		for _, n := range far {
			for length := range 66 {
				_, ok := checkClimb(t, api.Hash{7}, i, n, leaves(length))
				if ok && (i < 0 || i >= n) {
					t.Errorf("Climb(%d, %d) with %d hashes", i, n, length)
				}
			}
		}
	}
}

// The greatest trees: the first leaf of 2^63 - 1 has 63 beside its way, the last one 62.
func TestClimbGreatest(t *testing.T) {
	for _, c := range []struct{ i, n, length int }{
		{0, math.MaxInt, 63},
		{math.MaxInt - 1, math.MaxInt, 62},
		{1<<62 - 1, math.MaxInt, 63},
		{1 << 62, math.MaxInt, 63},
		{0, 1 << 62, 62},
		{1<<62 - 1, 1 << 62, 62},
		{1 << 62, 1<<62 + 1, 1},
	} {
		for length := range 70 {
			if _, ok := checkClimb(t, api.Hash{}, c.i, c.n, leaves(length)); ok != (length == c.length) {
				t.Errorf("Climb(%d, %d) with %d hashes: %v", c.i, c.n, length, ok)
			}
		}
	}
}

// proofOf: the words of Growth.
func (x *model) proofOf(m int, l []api.Hash) []api.Hash {
	if m == 0 {
		return nil
	}
	return x.proof(m, l, true)
}

func TestGrowthEveryNumber(t *testing.T) {
	for n := range small {
		l := leaves(n)
		for m := range n + 1 {
			x, tape := &model{}, &sha.Tape{}
			want := x.proofOf(m, l)
			if got, ok := Growth(tape, m, l...); !ok || !slices.Equal(got, want) {
				t.Errorf("of %d of %d: %x, %v; want %x", m, n, got, ok, want)
			}
			checkNotes(t, tape, x.notes...)
			checkMade(t, tape, l...)
			if got, ok := Growth(nil, m, l...); !ok || !slices.Equal(got, want) {
				t.Errorf("of %d of %d, without a tape: %x, %v", m, n, got, ok)
			}
			if (m == 0 || m == n) && (len(want) != 0 || tape.Len() != 0) {
				t.Errorf("of %d of %d: %d hashes", m, n, len(want))
			}
		}
	}
}

// The RFC's own example (2.1.3): c, d, g, l of 3; l of 4; i, j, k of 6; of 7 leaves.
func TestGrowthExampleOfTheRFC(t *testing.T) {
	l := leaves(7)
	node := new(model).node
	g, h, i := node(l[0], l[1]), node(l[2], l[3]), node(l[4], l[5])
	k, right := node(g, h), node(i, l[6])
	for m, want := range map[int][]api.Hash{3: {l[2], l[3], g, right}, 4: {right}, 6: {i, l[6], k}} {
		if got, ok := Growth(nil, m, l...); !ok || !slices.Equal(got, want) {
			t.Errorf("of %d: %x, %v; want %x", m, got, ok, want)
		}
	}
}

func TestGrowthOutOfRange(t *testing.T) {
	for n := range small {
		for _, m := range []int{-1, -2, -n - 1, n + 1, n + 2, 2*n + 1, math.MinInt, math.MaxInt} {
			tape := &sha.Tape{}
			if got, ok := Growth(tape, m, leaves(n)...); ok || len(got) != 0 {
				t.Errorf("of %d of %d: %x, %v", m, n, got, ok)
			}
			checkNotes(t, tape)
		}
	}
}

// checkGrown looks whether Grown answers so, with a tape and without one.
func checkGrown(t *testing.T, want bool, m, n int, old, young api.Hash, path []api.Hash) *sha.Tape {
	t.Helper()
	tape := &sha.Tape{}
	if got := Grown(tape, m, n, old, young, path...); got != want {
		t.Errorf("Grown(%d, %d, %d hashes): %v", m, n, len(path), got)
	}
	if got := Grown(nil, m, n, old, young, path...); got != want {
		t.Errorf("Grown(%d, %d, %d hashes) without a tape: %v", m, n, len(path), got)
	}
	return tape
}

func TestGrownEveryNumber(t *testing.T) {
	for n := range small {
		l := leaves(n)
		young := new(model).root(l)
		for m := range n + 1 {
			old := new(model).root(l[:m])
			path, _ := Growth(nil, m, l...)
			tape := checkGrown(t, true, m, n, old, young, path)
			x := &model{}
			if m == 0 {
				x.root(nil)
			} else if m < n {
				x.grown(m, n, old, young, path)
				checkMade(t, tape, append(path, old)...)
			}
			checkNotes(t, tape, x.notes...)
		}
	}
}

// What is hashed is on the tape, whatever the answer: all nodes of both trees, also where one of them isn't the right one.
func TestGrownNotesOfOtherRoots(t *testing.T) {
	for n := range small {
		l := leaves(n)
		young := new(model).root(l)
		for m := 1; m < n; m++ {
			old := new(model).root(l[:m])
			path, _ := Growth(nil, m, l...)
			for _, roots := range [][2]api.Hash{{turned(old, 1), young}, {old, turned(young, 2)}, {young, old}} {
				x := &model{}
				x.grown(m, n, roots[0], roots[1], path)
				tape := checkGrown(t, false, m, n, roots[0], roots[1], path)
				checkNotes(t, tape, x.notes...)
			}
		}
	}
}

func TestGrownPathsOfOtherLengths(t *testing.T) {
	for n := range small {
		l := leaves(n)
		young := new(model).root(l)
		for m := range n + 1 {
			old := new(model).root(l[:m])
			path, _ := Growth(nil, m, l...)
			wrong := [][]api.Hash{
				append(slices.Clone(path), young),
				append([]api.Hash{old}, path...),
				append([]api.Hash{{}}, path...),
				slices.Concat(path, leaves(70)),
			}
			if len(path) > 0 {
				wrong = append(wrong, path[1:], path[:len(path)-1], nil)
			}
			for _, p := range wrong {
				checkNotes(t, checkGrown(t, false, m, n, old, young, p))
			}
		}
	}
}

func TestGrownPathsChanged(t *testing.T) {
	for n := range small {
		l := leaves(n)
		young := new(model).root(l)
		for m := range n + 1 {
			old := new(model).root(l[:m])
			path, _ := Growth(nil, m, l...)
			for at := range path {
				other := slices.Clone(path)
				other[at] = turned(other[at], 5*m+at)
				checkGrown(t, false, m, n, old, young, other)
			}
			if len(path) > 1 {
				other := slices.Clone(path)
				slices.Reverse(other)
				checkGrown(t, false, m, n, old, young, other)
			}
		}
	}
}

func TestGrownFromNone(t *testing.T) {
	none := api.Hash(sha256.Sum256(nil))
	for n := 1; n < small; n++ {
		for _, young := range []api.Hash{new(model).root(leaves(n)), none, {}} {
			checkNotes(t, checkGrown(t, true, 0, n, none, young, nil), nil)
			checkNotes(t, checkGrown(t, true, 0, n, none, young, []api.Hash{}), nil)
			checkGrown(t, false, 0, n, turned(none, n), young, nil)
			checkGrown(t, false, 0, n, api.Hash{}, young, nil)
			checkGrown(t, false, 0, n, none, young, []api.Hash{young})
			checkGrown(t, false, 0, n, none, young, []api.Hash{none, young})
		}
	}
	checkGrown(t, true, 0, math.MaxInt, none, api.Hash{}, nil)
}

func TestGrownBySelf(t *testing.T) {
	for _, n := range []int{1, 2, 3, 4, 5, 7, 8, 9, 1 << 62, math.MaxInt} {
		for _, h := range []api.Hash{{}, {1, 2, 3}, sha256.Sum256(nil), new(model).root(leaves(3))} {
			checkNotes(t, checkGrown(t, true, n, n, h, h, nil))
			checkNotes(t, checkGrown(t, true, n, n, h, h, []api.Hash{}))
			checkGrown(t, false, n, n, h, turned(h, 255), nil)
			checkGrown(t, false, n, n, turned(h, 0), h, nil)
			checkGrown(t, false, n, n, h, h, []api.Hash{h})
			checkGrown(t, false, n, n, h, h, []api.Hash{h, h})
		}
	}
}

// None, and none came: the roots are the same, and that of none.
func TestGrownFromNoneToNone(t *testing.T) {
	none := api.Hash(sha256.Sum256(nil))
	checkNotes(t, checkGrown(t, true, 0, 0, none, none, nil), nil)
	checkGrown(t, false, 0, 0, none, none, []api.Hash{none})
	checkGrown(t, false, 0, 0, none, api.Hash{}, nil)
	checkGrown(t, false, 0, 0, api.Hash{}, none, nil)
	checkGrown(t, false, 0, 0, api.Hash{}, api.Hash{}, nil)
}

func TestGrownOutOfRange(t *testing.T) {
	none := api.Hash(sha256.Sum256(nil))
	far := []int{math.MinInt, math.MinInt + 1, -2, -1, 0, 1, 2, 3, math.MaxInt - 1, math.MaxInt}
	for _, m := range far {
		for _, n := range far {
			if m >= 0 && m <= n {
				continue
			}
			for length := range 66 {
				checkNotes(t, checkGrown(t, false, m, n, none, none, leaves(length)))
			}
		}
	}
	l := leaves(9)
	for n := range 9 { // the proof of the other way round
		path, _ := Growth(nil, n, l...)
		checkGrown(t, false, 9, n, new(model).root(l), new(model).root(l[:n]), path)
	}
}

func TestGrownGreatest(t *testing.T) {
	old, h := api.Hash{1}, api.Hash{2}
	young := new(model).node(old, h)
	checkGrown(t, true, 1<<62, math.MaxInt, old, young, []api.Hash{h})
	checkGrown(t, false, 1<<62, math.MaxInt, old, young, []api.Hash{h, h})
	checkGrown(t, false, 1<<62, math.MaxInt, old, young, nil)
	checkGrown(t, true, 1<<62, 1<<62+1, old, young, []api.Hash{h})
	for _, c := range []struct{ m, n int }{{1, math.MaxInt}, {2, math.MaxInt}, {3, math.MaxInt},
		{1<<62 - 1, math.MaxInt}, {1<<62 + 1, math.MaxInt}, {math.MaxInt - 1, math.MaxInt}, {1<<62 - 1, 1 << 62}} {
		for length := range 70 {
			checkGrown(t, false, c.m, c.n, old, young, leaves(length))
		}
	}
}

// Proofs of hashes that are no tree's lead to roots all the same, if there are as many as there must be: so the RFC's way says, and this one.
func TestGrownAsTheRFC(t *testing.T) {
	random := rand.New(rand.NewSource(6))
	for n := 2; n < small; n++ {
		for m := 1; m < n; m++ {
			lengths := 0
			for length := range 9 {
				path := make([]api.Hash, length)
				for i := range path {
					random.Read(path[i][:])
				}
				old, young, ok := new(model).roots(m, n, api.Hash{1}, path)
				checkGrown(t, ok, m, n, old, young, path)
				checkGrown(t, false, m, n, turned(old, length), young, path)
				checkGrown(t, false, m, n, old, turned(young, length), path)
				if ok {
					lengths++
				}
			}
			if lengths != 1 {
				t.Errorf("from %d to %d: paths of %d lengths", m, n, lengths)
			}
		}
	}
}

// A proof of other numbers says of these what the RFC's way says.
func TestGrownElsewhere(t *testing.T) {
	for n := 2; n < 12; n++ {
		l := leaves(n)
		young := new(model).root(l)
		for m := 1; m < n; m++ {
			old := new(model).root(l[:m])
			path, _ := Growth(nil, m, l...)
			for a := 1; a < 18; a++ {
				for b := a + 1; b < 18; b++ {
					want := new(model).grown(a, b, old, young, path)
					checkGrown(t, want, a, b, old, young, path)
				}
			}
		}
	}
}

// A list with room behind it, so that what is laid there is seen.
type roomy struct{ all, was []api.Hash }

func room(l []api.Hash) (roomy, []api.Hash) {
	all := slices.Concat(l, leaves(4))
	return roomy{all, slices.Clone(all)}, all[:len(l)]
}

func (r roomy) check(t *testing.T, what string) {
	t.Helper()
	if !slices.Equal(r.all, r.was) {
		t.Error(what, "changed what was handed in")
	}
}

func TestWhatIsHandedInStays(t *testing.T) {
	memory := []byte("leaf and what is behind it")
	Leaf(&sha.Tape{}, memory[:4])
	if string(memory) != "leaf and what is behind it" {
		t.Errorf("Leaf: %q", memory)
	}
	for n := 1; n < 18; n++ {
		kept, l := room(leaves(n))
		young := Root(&sha.Tape{}, l...)
		kept.check(t, "Root")
		for i := range n {
			path, _ := Path(&sha.Tape{}, i, l...)
			kept.check(t, "Path")
			keptPath, p := room(path)
			Climb(&sha.Tape{}, l[i], i, n, p...)
			keptPath.check(t, "Climb")
			proof, _ := Growth(&sha.Tape{}, i, l...)
			kept.check(t, "Growth")
			keptProof, q := room(proof)
			Grown(&sha.Tape{}, i, n, Root(nil, l[:i]...), young, q...)
			keptProof.check(t, "Grown")
		}
	}
}

// What is answered is new memory: to change it changes neither the leaves nor another answer.
func TestWhatIsAnsweredIsNew(t *testing.T) {
	l := leaves(7)
	for i := range l {
		path, _ := Path(nil, i, l...)
		proof, _ := Growth(nil, i, l...)
		wantPath, wantProof := slices.Clone(path), slices.Clone(proof)
		for _, answer := range [][]api.Hash{path, proof} {
			for at := range answer {
				answer[at] = api.Hash{}
			}
		}
		if !slices.Equal(l, leaves(7)) {
			t.Fatal("the leaves are changed")
		}
		path, _ = Path(nil, i, l...)
		proof, _ = Growth(nil, i, l...)
		if !slices.Equal(path, wantPath) || !slices.Equal(proof, wantProof) {
			t.Errorf("of %d: another answer", i)
		}
	}
}

// Nothing that is handed in is kept: notes and answers stay when it is changed.
func TestWhatIsHandedInIsNotKept(t *testing.T) {
	b, l := []byte("leaf"), leaves(5)
	x, tape := &model{}, &sha.Tape{}
	x.hash([]byte("\x00leaf")...)
	Leaf(tape, b)
	x.root(l)
	Root(tape, l...)
	want := x.path(2, l)
	path, _ := Path(tape, 2, l...)
	x.climb(l[2], 2, 5, want)
	Climb(tape, l[2], 2, 5, path...)
	wantProof := x.proof(3, l, true)
	proof, _ := Growth(tape, 3, l...)
	x.grown(3, 5, l[0], l[1], wantProof)
	given := slices.Clone(proof)
	Grown(tape, 3, 5, l[0], l[1], given...)
	b[0] = 'X'
	clear(l)
	clear(given)
	checkNotes(t, tape, x.notes...)
	if !slices.Equal(path, want) || !slices.Equal(proof, wantProof) {
		t.Error("answers are changed")
	}
}
