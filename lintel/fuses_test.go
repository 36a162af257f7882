package lintel_test

import (
	"fmt"
	"math"
	"math/rand"
	"reflect"
	"slices"
	"testing"

	"lintel/api"
	"lintel/lintel"
)

var states = []int{api.Test, api.Prod, api.Rma, api.Scrap}

// place: what the fuses say of a key.
type place struct {
	use, revoked int
	hash         string
}

func wordsOf(b string) []int {
	var words []int
	for i := 0; i < len(b); i += 2 {
		words = append(words, 256*int(b[i])+int(b[i+1]))
	}
	return words
}

// fuseWords: the words of fuses.
func fuseWords(state int, least [3]int, places [4]place) []int {
	words := append([]int{state, state}, least[:]...)
	for _, p := range places {
		words = append(words, p.use, p.use, p.revoked, p.revoked)
		words = append(words, wordsOf(p.hash)...)
	}
	return words
}

// somePlaces: each of the four says something else, and one of them that its key may be used.
func somePlaces() [4]place {
	return [4]place{
		{api.On, api.On, want("key 0")}, {api.On, api.Off, want("key 1")},
		{api.Off, api.Off, want("key 2")}, {api.Off, api.On, want("key 3")},
	}
}

func someWords() []int { return fuseWords(api.Prod, [3]int{7, 3, 19}, somePlaces()) }

// shown: fuses with their hashes to the base 16.
func shown(f api.Fuses) string {
	return fmt.Sprintf("state %04x, usable %v, least %d, hashes %x", f.State, f.Usable, f.Least, f.Hashes)
}

func fusesAre(t *testing.T, what string, words []int, want api.Fuses) {
	t.Helper()
	if f, e := lintel.Fuses(words); e != api.OK || !reflect.DeepEqual(f, want) {
		t.Errorf("%s: %s, error %d, want %s", what, shown(f), e, shown(want))
	}
}

// noFuses: an error, and nothing beside it.
func noFuses(t *testing.T, what string, words []int, want api.Errno) {
	t.Helper()
	f, e := lintel.Fuses(words)
	if e != want || f.State != 0 || len(f.Usable) != 0 || f.Least != 0 || len(f.Hashes) != 0 {
		t.Errorf("%s: %s, error %d, want %d", what, shown(f), e, want)
	}
}

func with(words []int, at, word int) []int {
	words = slices.Clone(words)
	words[at] = word
	return words
}

func TestP5StatesAndPlaces(t *testing.T) {
	for _, state := range states {
		fusesAre(t, fmt.Sprintf("the state %04x", state), fuseWords(state, [3]int{7, 3, 19}, somePlaces()), api.Fuses{
			State: state, Usable: []bool{false, true, false, false}, Least: 2,
			Hashes: []string{want("key 0"), want("key 1"), want("key 2"), want("key 3")},
		})
	}
	for uses := range 256 {
		var places [4]place
		right := api.Fuses{State: api.Test, Usable: make([]bool, 4), Hashes: make([]string, 4)}
		for k := range places {
			code := []int{api.Off, api.On}
			use, revoked := uses>>(2*k)&1, uses>>(2*k+1)&1
			hash := want(fmt.Sprint(uses, k))
			places[k] = place{code[use], code[revoked], hash}
			right.Usable[k], right.Hashes[k] = use == 1 && revoked == 0, hash
		}
		fusesAre(t, fmt.Sprintf("uses %b", uses), fuseWords(api.Test, [3]int{}, places), right)
	}
}

func TestP5HashesOfAllBits(t *testing.T) {
	for _, b := range []byte{0, 1, 128, 255} {
		hash := string(slices.Repeat([]byte{b, 255 - b}, 16))
		words := fuseWords(api.Rma, [3]int{}, [4]place{{api.Off, api.Off, hash}, {api.Off, api.Off, hash}, {api.Off, api.Off, hash}, {api.Off, api.Off, hash}})
		fusesAre(t, fmt.Sprintf("hashes of %d", b), words, api.Fuses{State: api.Rma, Usable: make([]bool, 4), Hashes: []string{hash, hash, hash, hash}})
	}
}

// leastBy: bit by bit, otherwise than the program does it; -1, if there is a 0 below a 1.
func leastBy(words [3]int) int {
	ones, last := 0, -1
	for bit := range 16 {
		votes := 0
		for _, word := range words {
			votes += word >> bit & 1
		}
		if votes >= 2 {
			ones, last = ones+1, bit
		}
	}
	if last != ones-1 {
		return -1
	}
	return ones
}

func leastIs(t *testing.T, words [3]int, want int) {
	t.Helper()
	all := fuseWords(api.Scrap, words, somePlaces())
	if want < 0 {
		noFuses(t, fmt.Sprintf("the least version %04x", words), all, api.ErrFuses)
	} else if f, e := lintel.Fuses(all); f.Least != want || e != api.OK {
		t.Errorf("the least version %04x: %d, %d, want %d", words, f.Least, e, want)
	}
}

func TestP5LeastVersions(t *testing.T) {
	leastIs(t, [3]int{7, 3, 0x13}, 2)
	leastIs(t, [3]int{5, 5, 1}, -1)
	leastIs(t, [3]int{1, 2, 4}, 0)
	leastIs(t, [3]int{0xffff, 0xffff, 0}, 16)
	leastIs(t, [3]int{0x8000, 0x8000, 0x8000}, -1)
	leastIs(t, [3]int{0xfffe, 0xfffe, 0xffff}, -1)
	for word := range 1 << 16 {
		leastIs(t, [3]int{word, word, word}, leastBy([3]int{word, word, word}))
	}
	r := rand.New(rand.NewSource(5))
	for ones := range 17 {
		word := 1<<ones - 1
		for range 200 {
			other := r.Intn(1 << 16)
			leastIs(t, [3]int{word, word, other}, ones)
			leastIs(t, [3]int{word, other, word}, ones)
			leastIs(t, [3]int{other, word, word}, ones)
			mixed := [3]int{word ^ 1<<r.Intn(16), word ^ 1<<r.Intn(16), word ^ 1<<r.Intn(16)}
			leastIs(t, mixed, leastBy(mixed))
		}
	}
}

// Each bit of what stands there twice: one of both turned, and both turned alike.
func TestP5BitsTurnedOver(t *testing.T) {
	words := someWords()
	twos := []int{0}
	for k := range 4 {
		twos = append(twos, 5+20*k, 7+20*k)
	}
	for _, at := range twos {
		for bit := range 16 {
			what := fmt.Sprintf("bit %d at %d turned", bit, at)
			first := with(words, at, words[at]^1<<bit)
			noFuses(t, what, first, api.ErrFuses)
			noFuses(t, what+", of the second", with(words, at+1, words[at]^1<<bit), api.ErrFuses)
			noFuses(t, what+", of both", with(first, at+1, words[at]^1<<bit), api.ErrFuses)
		}
	}
}

func TestP5CodesOfOtherThings(t *testing.T) {
	words := someWords()
	for code := range 1 << 16 {
		isState, isFlag := slices.Contains(states, code), code == api.On || code == api.Off
		if _, e := lintel.Fuses(with(with(words, 0, code), 1, code)); (e == api.OK) != isState || !isState && e != api.ErrFuses {
			t.Errorf("the state %04x: %d", code, e)
		}
		at := 5 + code%4*20 + code/4%2*2
		if _, e := lintel.Fuses(with(with(words, at, code), at+1, code)); (e == api.OK) != isFlag || !isFlag && e != api.ErrFuses {
			t.Errorf("%04x twice at %d: %d", code, at, e)
		}
	}
	for _, state := range states {
		if state != api.Prod {
			noFuses(t, "two states", with(words, 0, state), api.ErrFuses)
			noFuses(t, "two states", with(words, 1, state), api.ErrFuses)
		}
	}
	for k := range 4 {
		for at := 5 + 20*k; at < 9+20*k; at++ {
			noFuses(t, "On beside Off", with(words, at, words[at]^api.On^api.Off), api.ErrFuses)
		}
	}
}

func TestP5WrongWords(t *testing.T) {
	words, wrong := someWords(), make([]int, 85)
	noFuses(t, "nil", nil, api.ErrArg)
	noFuses(t, "all 0", wrong, api.ErrFuses)
	long := append(slices.Clone(words), words...)
	for n := range 171 {
		if n != 85 {
			noFuses(t, fmt.Sprint(n, " words"), long[:n], api.ErrArg)
		}
	}
	for at := range 85 {
		for _, word := range []int{-1, 65536, words[at] + 65536, words[at] - 65536, math.MinInt, math.MaxInt, math.MinInt | words[at]} {
			noFuses(t, fmt.Sprintf("%d at %d", word, at), with(words, at, word), api.ErrArg)
			noFuses(t, fmt.Sprintf("%d at %d of fuses that are not right", word, at), with(wrong, at, word), api.ErrArg)
		}
	}
}

// roomy: a list with spare room behind it, and all of that room.
func roomy[E any](list []E, behind E) (short, whole []E) {
	whole = append(slices.Clone(list), slices.Repeat([]E{behind}, 9)...)
	return whole[:len(list)], whole
}

func TestP2FusesLeaveTheWordsAlone(t *testing.T) {
	for _, words := range [][]int{someWords(), make([]int, 85), make([]int, 84)} {
		short, whole := roomy(words, -7)
		before := slices.Clone(whole)
		lintel.Fuses(short)
		if !slices.Equal(whole, before) {
			t.Error("the words, or what stands behind them, are others")
		}
	}
}

func TestP2FusesAreNewMemory(t *testing.T) {
	words := someWords()
	first, _ := lintel.Fuses(words)
	second, _ := lintel.Fuses(words)
	for i := range first.Usable[:cap(first.Usable)] {
		first.Usable[:cap(first.Usable)][i] = true
	}
	for i := range first.Hashes[:cap(first.Hashes)] {
		first.Hashes[:cap(first.Hashes)][i] = "?"
	}
	clear(words)
	right := api.Fuses{State: api.Prod, Usable: []bool{false, true, false, false}, Least: 2, Hashes: []string{want("key 0"), want("key 1"), want("key 2"), want("key 3")}}
	if !reflect.DeepEqual(second, right) {
		t.Errorf("written into one answer, another is %s", shown(second))
	}
	fusesAre(t, "asked again", someWords(), right)
}
