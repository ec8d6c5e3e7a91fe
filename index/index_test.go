package index

import (
	"cmp"
	"maps"
	"math"
	"math/rand"
	"slices"
	"testing"

	"pacioli/api"
)

// Every test here is one of P8.1; that none of these calls panics or goes on for ever is P0.

// A pair is a key and its number.
type pair struct {
	key api.Num
	val int
}

func low(n uint64) api.Num { return api.Num{Lo: n} }

func high(n uint64) api.Num { return api.Num{Hi: n} }

func greatest() api.Num { return api.Num{Hi: math.MaxUint64, Lo: math.MaxUint64} }

// turned: a key with one bit turned, the highest being 0.
func turned(key api.Num, at int) api.Num {
	if at < 64 {
		key.Hi ^= 1 << (63 - at)
	} else {
		key.Lo ^= 1 << (127 - at)
	}
	return key
}

// compare works from the words alone, so that what is tested isn't its own measure.
func compare(a, b api.Num) int {
	return cmp.Or(cmp.Compare(a.Hi, b.Hi), cmp.Compare(a.Lo, b.Lo))
}

// told: what All tells.
func told(x *Index) []pair {
	var l []pair
	for key, val := range x.All {
		l = append(l, pair{key, val})
	}
	return l
}

// A model is what should be there.
type model map[api.Num]int

// rising: all pairs of a model, as All should tell them.
func (m model) rising() []pair {
	var l []pair
	for _, key := range slices.SortedFunc(maps.Keys(m), compare) {
		l = append(l, pair{key, m[key]})
	}
	return l
}

// checkNone: is a key not there?
func checkNone(t *testing.T, x *Index, keys ...api.Num) {
	t.Helper()
	for _, key := range keys {
		if val, ok := x.Get(key); ok || val != 0 {
			t.Errorf("Get(%x) of no such key: %d, %v", key, val, ok)
		}
	}
}

// check holds an index against a model by all calls, also at the keys beside those that are there.
func check(t *testing.T, x *Index, m model) {
	t.Helper()
	if x.Len() != len(m) {
		t.Errorf("Len: %d, want %d", x.Len(), len(m))
	}
	if got, want := told(x), m.rising(); !slices.Equal(got, want) {
		t.Errorf("All: %x, want %x", got, want)
	}
	for key, want := range m {
		if val, ok := x.Get(key); !ok || val != want {
			t.Errorf("Get(%x): %d, %v; want %d", key, val, ok, want)
		}
		for at := range 128 {
			if other := turned(key, at); !m.has(other) {
				checkNone(t, x, other)
			}
		}
	}
}

func (m model) has(key api.Num) bool {
	_, ok := m[key]
	return ok
}

// filled: an index of these pairs, put in one behind the other, and its model; it is looked at behind each.
func filled(t *testing.T, l ...pair) (*Index, model) {
	t.Helper()
	x, m := &Index{}, model{}
	for _, p := range l {
		x.Put(p.key, p.val)
		m[p.key] = p.val
		check(t, x, m)
	}
	return x, m
}

// pairs: keys with their numbers, which are unlike each other, and none of them 0.
func pairs(keys ...api.Num) []pair {
	var l []pair
	for i, key := range keys {
		l = append(l, pair{key, 3*i + 7})
	}
	return l
}

// random: keys from all over, and keys that are near each other; always the same.
func random(n int) []api.Num {
	r := rand.New(rand.NewSource(8))
	var keys []api.Num
	for len(keys) < n {
		far := api.Num{Hi: r.Uint64() >> r.Intn(65), Lo: r.Uint64() >> r.Intn(65)}
		keys = append(keys, far, turned(far, r.Intn(128)), low(uint64(r.Intn(n))), high(uint64(r.Intn(n))))
	}
	return keys[:n]
}

func TestExample(t *testing.T) {
	x, _ := filled(t, pair{low(2), 20}, pair{low(1), 10})
	if got := told(x); !slices.Equal(got, []pair{{low(1), 10}, {low(2), 20}}) {
		t.Error(got)
	}
}

func TestMadeByNobody(t *testing.T) {
	var x Index
	if x.Len() != 0 || told(&x) != nil {
		t.Error("it isn't empty:", x.Len(), told(&x))
	}
	checkNone(t, &x, low(0), low(1), high(1), greatest())
	y := x.Copy()
	check(t, y, model{})
	x.Put(low(5), 50)
	check(t, &x, model{low(5): 50})
	check(t, y, model{})
	check(t, new(Index), model{})
}

func TestPutNewAndThere(t *testing.T) {
	x, m := filled(t, pairs(low(5), low(9), high(3))...)
	for _, val := range []int{1, 2, 2, 0, -1, math.MinInt, math.MaxInt, 7} {
		for _, key := range []api.Num{low(9), low(5), high(3)} {
			x.Put(key, val)
			m[key] = val
			check(t, x, m)
		}
	}
	if x.Len() != 3 {
		t.Error("Len:", x.Len())
	}
	x.Put(low(6), 60)
	m[low(6)] = 60
	check(t, x, m)
}

// One key alone is put in again and again: the number is the last one, Len stays.
func TestPutOneKeyAgain(t *testing.T) {
	var l []pair
	for i := range 50 {
		l = append(l, pair{high(1), 50 - i})
	}
	x, _ := filled(t, l...)
	if val, ok := x.Get(high(1)); x.Len() != 1 || !ok || val != 1 {
		t.Error(x.Len(), val, ok)
	}
}

func TestNumbers(t *testing.T) {
	vals := []int{0, -1, 1, math.MinInt, math.MaxInt, math.MinInt + 1, math.MaxInt - 1, math.MinInt32, math.MaxInt32 + 1}
	var l []pair
	for i, val := range vals {
		l = append(l, pair{low(uint64(i)), val})
	}
	x, _ := filled(t, l...)
	for i, val := range vals {
		if got, ok := x.Get(low(uint64(i))); !ok || got != val {
			t.Errorf("%d: %d, %v", val, got, ok)
		}
	}
	if got := told(x); !slices.Equal(got, l) {
		t.Error(got)
	}
}

// A key that has 0 is there; one that isn't there has 0, false.
func TestNumberZeroIsThere(t *testing.T) {
	x, _ := filled(t, pair{low(0), 0})
	if val, ok := x.Get(low(0)); !ok || val != 0 || x.Len() != 1 {
		t.Error(val, ok, x.Len())
	}
	checkNone(t, x, low(1), greatest())
}

func TestOrders(t *testing.T) {
	var rising []pair
	for i := range 40 {
		rising = append(rising, pair{low(uint64(3 * i)), i + 1}, pair{high(uint64(i + 1)), -i}, pair{api.Num{Hi: uint64(i), Lo: math.MaxUint64}, i})
	}
	slices.SortFunc(rising, func(a, b pair) int { return compare(a.key, b.key) })
	falling := slices.Clone(rising)
	slices.Reverse(falling)
	mixed := slices.Clone(rising)
	rand.New(rand.NewSource(3)).Shuffle(len(mixed), func(i, j int) { mixed[i], mixed[j] = mixed[j], mixed[i] })
	for what, l := range map[string][]pair{"rising": rising, "falling": falling, "mixed": mixed} {
		x, _ := filled(t, l...)
		if got := told(x); !slices.Equal(got, rising) {
			t.Errorf("%s: %x, want %x", what, got, rising)
		}
	}
}

func TestKeysMoreThanOnce(t *testing.T) {
	r := rand.New(rand.NewSource(4))
	var l []pair
	for i := range 300 {
		l = append(l, pair{api.Num{Hi: uint64(r.Intn(3)), Lo: uint64(r.Intn(9))}, i - 150})
	}
	x, _ := filled(t, l...)
	if x.Len() != 27 {
		t.Error("Len:", x.Len())
	}
}

func TestKeysThatPartInOneBit(t *testing.T) {
	for _, key := range []api.Num{low(0), greatest(), {Hi: 0x5555555555555555, Lo: 0xaaaaaaaaaaaaaaaa}} {
		for at := range 128 {
			other := turned(key, at)
			filled(t, pair{key, 1}, pair{other, 2})
			filled(t, pair{other, 2}, pair{key, 1}, pair{other, 3})
		}
	}
}

// All that a few of the lowest bits tell apart, and of the highest, and of both.
func TestKeysThatPartAtTheEnds(t *testing.T) {
	for _, key := range []api.Num{low(0), greatest(), {Hi: 0x0123456789abcdef, Lo: 0xfedcba9876543210}} {
		var lowest, highest, both []api.Num
		for i := range uint64(16) {
			j := i * 11 % 16
			lowest = append(lowest, api.Num{Hi: key.Hi, Lo: key.Lo ^ j})
			highest = append(highest, api.Num{Hi: key.Hi ^ j<<60, Lo: key.Lo})
			both = append(both, api.Num{Hi: key.Hi ^ j>>2<<62, Lo: key.Lo ^ j&3})
		}
		filled(t, pairs(lowest...)...)
		filled(t, pairs(highest...)...)
		filled(t, pairs(both...)...)
	}
}

// One bit each: every fork is at another bit, so no way down is longer.
func TestKeysOfOneBitEach(t *testing.T) {
	keys := []api.Num{low(0)}
	for at := range 128 {
		keys = append(keys, turned(low(0), at))
	}
	filled(t, pairs(keys...)...)
	slices.Reverse(keys)
	filled(t, pairs(keys...)...)
}

func TestLeastAndGreatestKeys(t *testing.T) {
	filled(t, pair{low(0), 1})
	filled(t, pair{greatest(), 1})
	filled(t, pair{greatest(), 2}, pair{low(0), 1})
	x, _ := filled(t, pairs(low(1), greatest(), low(0), turned(greatest(), 127), low(math.MaxUint64), high(1))...)
	l := told(x)
	if l[0].key != low(0) || l[len(l)-1].key != greatest() || len(l) != 6 {
		t.Errorf("%x", l)
	}
}

func TestGetOfKeysThatAreNotThere(t *testing.T) {
	x, _ := filled(t, pairs(low(10), low(12), low(20), high(2), api.Num{Hi: 2, Lo: 5}, high(9))...)
	checkNone(t, x, low(0), low(1), low(9))                                                       // below all
	checkNone(t, x, api.Num{Hi: 9, Lo: 1}, high(10), greatest())                                  // above all
	checkNone(t, x, low(11), low(13), low(19), low(21), high(1), api.Num{Hi: 2, Lo: 4}, high(3))  // between two
	checkNone(t, x, api.Num{Hi: 10, Lo: 10}, api.Num{Hi: 12, Lo: 12}, low(2), low(9), low(1<<33)) // words that are there elsewhere, or nearly
	only, _ := filled(t, pair{high(5), 1})
	checkNone(t, only, low(0), low(5), high(4), high(6), api.Num{Hi: 5, Lo: 5}, greatest())
}

func TestManyKeys(t *testing.T) {
	const many = 10000
	keys := random(many)
	x, m := &Index{}, model{}
	for i, key := range keys {
		x.Put(key, i)
		m[key] = i
	}
	check(t, x, m)
	r := rand.New(rand.NewSource(9))
	for range many {
		other := api.Num{Hi: r.Uint64(), Lo: r.Uint64()}
		if !m.has(other) {
			checkNone(t, x, other)
		}
	}
	for i, key := range keys {
		x.Put(key, -i)
		m[key] = -i
	}
	check(t, x, m)
}

// Behind each number of keys yield says false once: it is told no more.
func TestAllTillYieldSaysFalse(t *testing.T) {
	x, m := filled(t, pairs(random(60)...)...)
	want := m.rising()
	for stop := 1; stop <= len(want); stop++ {
		var got []pair
		x.All(func(key api.Num, val int) bool {
			got = append(got, pair{key, val})
			return len(got) < stop
		})
		if !slices.Equal(got, want[:stop]) {
			t.Errorf("till %d: %x, want %x", stop, got, want[:stop])
		}
	}
	check(t, x, m)
}

// A yield that would say true again behind its false isn't asked.
func TestAllNotOnceMore(t *testing.T) {
	for n := range 9 {
		x, _ := filled(t, pairs(random(n)...)...)
		for refused := range n {
			calls := 0
			x.All(func(api.Num, int) bool {
				calls++
				return calls != refused+1
			})
			if want := min(refused+1, x.Len()); calls != want {
				t.Errorf("of %d, false at %d: %d calls", n, refused, calls)
			}
		}
	}
}

func TestAllOfNoneCallsNothing(t *testing.T) {
	new(Index).All(func(key api.Num, val int) bool {
		t.Error("told:", key, val)
		return true
	})
}

func TestAllWithoutYield(t *testing.T) {
	new(Index).All(nil)
	x, m := filled(t, pairs(low(1), low(2))...)
	x.All(nil)
	check(t, x, m)
}

func TestAllTwice(t *testing.T) {
	x, m := filled(t, pairs(random(30)...)...)
	n := 0
	for key, val := range x.All {
		inner := 0
		for range x.All {
			inner++
		}
		if got, ok := x.Get(key); !ok || got != val || inner != x.Len() {
			t.Errorf("%x: %d, %v; %d", key, got, ok, inner)
		}
		n++
	}
	if n != x.Len() {
		t.Errorf("%d of %d", n, x.Len())
	}
	check(t, x, m)
}

// What is put in meanwhile, new keys or other numbers, isn't told by this All, so that it ends; it is there behind it.
func TestAllWhileMoreIsPut(t *testing.T) {
	keys := random(40)
	x, m := filled(t, pairs(keys...)...)
	want := m.rising()
	var got []pair
	put := func(key api.Num, val int) {
		x.Put(key, val)
		m[key] = val
	}
	for key, val := range x.All {
		got = append(got, pair{key, val})
		if len(got) > len(want) {
			break
		}
		for at := 0; at < 128; at += 7 { // beside it, below and above
			put(turned(key, at), -at)
		}
		for _, other := range keys {
			put(other, 1000+len(got))
		}
	}
	if !slices.Equal(got, want) {
		t.Errorf("told: %x, want %x", got, want)
	}
	check(t, x, m)
}

func TestCopyGoesItsOwnWay(t *testing.T) {
	for _, n := range []int{1, 2, 3, 10, 60} {
		keys := random(n)
		x, m := filled(t, pairs(keys...)...)
		y, w := x.Copy(), maps.Clone(m)
		check(t, y, w)
		for i, key := range keys { // numbers of keys that are there in both
			x.Put(key, 1000+i)
			m[key] = 1000 + i
			check(t, y, w)
			y.Put(key, 2000+i)
			w[key] = 2000 + i
			check(t, x, m)
		}
		for at := 0; at < 128; at += 13 { // keys that are new
			first, second := turned(keys[0], at), turned(keys[n-1], 127-at)
			x.Put(first, -1)
			m[first] = -1
			check(t, y, w)
			y.Put(second, -2)
			w[second] = -2
			check(t, x, m)
		}
	}
}

func TestCopyOfEmpty(t *testing.T) {
	x := &Index{}
	y, z := x.Copy(), x.Copy()
	y.Put(low(1), 10)
	check(t, x, model{})
	check(t, z, model{})
	check(t, y, model{low(1): 10})
	x.Put(low(2), 20)
	check(t, x, model{low(2): 20})
	check(t, y, model{low(1): 10})
	check(t, z, model{})
}

func TestCopyOfCopy(t *testing.T) {
	x, m := filled(t, pairs(low(1), high(1), greatest())...)
	list, models := []*Index{x}, []model{m}
	for i := range 6 {
		list = append(list, list[i].Copy())
		models = append(models, maps.Clone(models[i]))
	}
	for i, y := range list {
		y.Put(low(uint64(100+i)), i)
		y.Put(high(1), -i)
		models[i][low(uint64(100+i))] = i
		models[i][high(1)] = -i
		for j := range list {
			check(t, list[j], models[j])
		}
	}
}

func TestCopyWhileGoingOverAll(t *testing.T) {
	x, m := filled(t, pairs(low(3), low(4), high(5))...)
	want := m.rising()
	var got []pair
	for key, val := range x.All {
		got = append(got, pair{key, val})
		y := x.Copy()
		y.Put(key, -9)
		y.Put(low(7), 7)
	}
	if !slices.Equal(got, want) {
		t.Errorf("told: %x, want %x", got, want)
	}
	check(t, x, m)
}

// What one index has, another one hasn't.
func TestIndexesAreApart(t *testing.T) {
	x, m := filled(t, pairs(low(1), low(2))...)
	y, w := filled(t, pairs(low(2), low(3))...)
	x.Put(low(3), 30)
	y.Put(low(1), 10)
	m[low(3)], w[low(1)] = 30, 10
	check(t, x, m)
	check(t, y, w)
}

// Calls in any order on several that were copied from each other, against plain maps.
func TestManyCalls(t *testing.T) {
	r := rand.New(rand.NewSource(5))
	keys := random(40)
	list, models := []*Index{{}}, []model{{}}
	for step := range 4000 {
		i := r.Intn(len(list))
		switch r.Intn(20) {
		case 0:
			if j := r.Intn(8); j < len(list) {
				list[j], models[j] = list[i].Copy(), maps.Clone(models[i])
			} else {
				list, models = append(list, list[i].Copy()), append(models, maps.Clone(models[i]))
			}
		case 1:
			check(t, list[i], models[i])
		default:
			key := keys[r.Intn(len(keys))]
			list[i].Put(key, step)
			models[i][key] = step
		}
	}
	for i := range list {
		check(t, list[i], models[i])
	}
}
