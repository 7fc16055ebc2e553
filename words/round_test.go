package words_test

import (
	"fmt"
	"math/rand"
	"slices"
	"testing"

	"tracery/api"
	"tracery/words"
)

// wantCore holds Core against the one pair of words that it may answer.
func wantCore(t *testing.T, w, core, by []int) {
	t.Helper()
	c, b, e := words.Core(w...)
	if e != api.OK || !slices.Equal(c, core) || !slices.Equal(b, by) {
		t.Errorf("Core of %v ..: %v .. by %v .., %v, not %v .. by %v ..", brief(w), brief(c), brief(b), e, brief(core), brief(by))
	}
}

// P16.3: the examples of the chapter.
func TestCoreExamples(t *testing.T) {
	wantCore(t, word(-1, 2, 3, 1), word(2, 3), word(1))
	wantCore(t, word(1, 2, 1), word(1, 2, 1), nil)
	wantCore(t, nil, nil, nil)
	wantCore(t, word(1, -1), nil, nil)
	wantCore(t, word(5), word(5), nil)
	wantCore(t, word(1, 2, -1), word(2), word(-1))
	wantCore(t, word(3, 1, 2, -2, 4, -1, -3), word(4), word(-1, -3))
}

// P16.3: the short form is by's inverse, core, by, nothing cancelling.
func TestCoreOfMany(t *testing.T) {
	r := rand.New(rand.NewSource(163))
	l := few(6)
	for range 1000 {
		l = append(l, mixed(r, 1+r.Intn(2), r.Intn(40)))
	}
	for _, w := range l {
		core, by, e := words.Core(w...)
		if e != api.OK || !slices.Equal(behind(back(by), core, by), taken(w)) {
			t.Fatalf("Core of %v: %v by %v, %v", w, core, by, e)
		}
		if n := len(core); n > 1 && core[0]+core[n-1] == 0 || n == 0 && len(by) > 0 {
			t.Fatalf("Core of %v: %v by %v is not round", w, core, by)
		}
	}
}

// P16.3: cores and what they are brought by, as long as may be.
func TestCoreAtTheBound(t *testing.T) {
	wantCore(t, tallest(api.MaxList), tallest(api.MaxList), nil)
	wantCore(t, behind(row(2047, -9), word(5, 6), row(2047, 9)), word(5, 6), row(2047, 9))
	wantCore(t, behind(row(2047, -9), word(5), row(2047, 9)), word(5), row(2047, 9))
	wantCore(t, row(api.MaxList/2, 4, -4), nil, nil)
	wantCore(t, behind(row(1000, 3, -3), word(-7, 1, 1, 7)), word(1, 1), word(7))
}

func wantRoot(t *testing.T, w, root []int, n int) {
	t.Helper()
	got, high, e := words.Root(w...)
	if e != api.OK || high != n || !slices.Equal(got, root) {
		t.Errorf("Root of %d letters, %v ..: %d letters, %v .., %d, %v, not %v .., %d", len(w), brief(w), len(got), brief(got), high, e, brief(root), n)
	}
}

// P16.3: the examples of the chapter.
func TestRootExamples(t *testing.T) {
	wantRoot(t, word(1, 2, 1, 2), word(1, 2), 2)
	wantRoot(t, word(-1, 2, 2, 1), word(-1, 2, 1), 2)
	wantRoot(t, word(1), word(1), 1)
	wantRoot(t, word(-3, -3, -3), word(-3), 3)
	wantRoot(t, word(1, 2, 1), word(1, 2, 1), 1)
	wantRoot(t, word(1, 2, 1, 2, 1), word(1, 2, 1, 2, 1), 1)
	wantRoot(t, word(1, 2, -1, -2), word(1, 2, -1, -2), 1)
	for _, w := range [][]int{nil, {1, -1}, {1, 2, -2, -1}, row(api.MaxList/2, 8, -8)} {
		if root, n, e := words.Root(w...); e != api.ErrNone || root != nil || n != 0 {
			t.Errorf("Root of %v ..: %v, %d, %v", brief(w), root, n, e)
		}
	}
}

// slowRoot tries each beginning of the core.
func slowRoot(w []int) ([]int, int) {
	w = taken(w)
	cut := 0
	for w[cut]+w[len(w)-1-cut] == 0 {
		cut++
	}
	core := w[cut : len(w)-cut]
	for n := len(core); n > 1; n-- {
		if p := len(core) / n; p*n == len(core) && slices.Equal(row(n, core[:p]...), core) {
			return behind(w[:cut], core[:p], w[len(w)-cut:]), n
		}
	}
	return w, 1
}

// P16.3: roots of words of few letters, of powers, of what is brought
// elsewhere.
func TestRootOfMany(t *testing.T) {
	r := rand.New(rand.NewSource(1630))
	l := few(6)
	for range 1500 {
		w := row(1+r.Intn(6), anyRound(r, 1+r.Intn(2), 1+r.Intn(7))...)
		by := mixed(r, 3, r.Intn(5))
		l = append(l, w, behind(back(by), w, by))
	}
	for _, w := range l {
		if len(taken(w)) == 0 {
			continue
		}
		root, n := slowRoot(w)
		wantRoot(t, w, root, n)
		if !slices.Equal(taken(row(n, root...)), taken(w)) {
			t.Fatalf("the root of %v, %v, is none", w, root)
		}
	}
}

// P16.3: roots of words as long as may be.
func TestRootAtTheBound(t *testing.T) {
	wantRoot(t, row(api.MaxList, -64), word(-64), api.MaxList)
	wantRoot(t, row(api.MaxList-1, 3), word(3), api.MaxList-1)
	wantRoot(t, tallest(api.MaxList), tallest(api.MaxList), 1)
	wantRoot(t, row(2, tallest(api.MaxList/2)...), tallest(api.MaxList/2), 2)
	wantRoot(t, row(1365, 1, 2, 1), word(1, 2, 1), 1365)
	wantRoot(t, behind(row(1000, -9), row(2096, 5), row(1000, 9)), behind(row(1000, -9), word(5), row(1000, 9)), 2096)
	wantRoot(t, behind(row(1000, -9), row(1048, 5, 6), row(1000, 9)), behind(row(1000, -9), word(5, 6), row(1000, 9)), 1048)
	almost := row(2048, 1, 2)
	almost[api.MaxList-1] = 3
	wantRoot(t, almost, almost, 1)
}

// P16.4: the examples of the chapter.
func TestAlikeExamples(t *testing.T) {
	for _, x := range []struct {
		v, w  []int
		alike bool
	}{
		{word(1, 2), word(2, 1), true},
		{word(1), word(2), false},
		{word(1), word(-1), false},
		{nil, word(1, -1), true},
		{nil, word(1), false},
		{word(1, 1), word(1), false},
		{word(1, 2, 3), word(3, 1, 2), true},
		{word(1, 2, 3), word(3, 2, 1), false},
		{word(1, 2), word(-5, 2, 1, 5), true},
		{word(4, 1, 2, -4), word(-5, 2, 1, 5), true},
		{word(1, 1, 2), word(1, 2, 2), false},
	} {
		got, e := words.Alike(x.v, x.w)
		wantBool(t, fmt.Sprint("Alike of ", x.v, x.w), got, e, x.alike)
		got, e = words.Alike(x.w, x.v)
		wantBool(t, fmt.Sprint("Alike of ", x.w, x.v), got, e, x.alike)
	}
}

// P16.4: of few letters, by trying all words that might bring the one to the
// other.
func TestAlikeByTrying(t *testing.T) {
	l, by := few(4), few(4)
	for _, v := range l {
		reached := map[string]bool{}
		for _, u := range by {
			got := must2(words.Conj(v, u))
			reached[fmt.Sprint(got)] = true
		}
		for _, w := range l {
			got, e := words.Alike(v, w)
			wantBool(t, fmt.Sprint("Alike of ", v, w), got, e, reached[fmt.Sprint(must2(words.Short(w...)))])
		}
	}
}

func must2(w []int, e api.Errno) []int {
	if e != api.OK {
		panic(e)
	}
	return w
}

// P16.4: a word is alike to itself, turned on and brought elsewhere, and to
// none in which a letter is another one.
func TestAlikeOfMany(t *testing.T) {
	r := rand.New(rand.NewSource(164))
	for range 3000 {
		core := anyRound(r, 1+r.Intn(3), 1+r.Intn(24))
		if r.Intn(3) == 0 {
			core = row(1+r.Intn(4), core...)
		}
		at := r.Intn(len(core))
		on := behind(core[at:], core[:at])
		by := mixed(r, 3, r.Intn(9))
		w := behind(back(by), on, by)
		got, e := words.Alike(core, w)
		wantBool(t, fmt.Sprint("Alike of ", core, w), got, e, true)
		got, e = words.Alike(w, core)
		wantBool(t, fmt.Sprint("Alike of ", w, core), got, e, true)
		on[r.Intn(len(on))] = 60
		got, e = words.Alike(core, on)
		wantBool(t, fmt.Sprint("Alike of ", core, on), got, e, false)
	}
}

// P16.4: Alike and Commute of words as long as may be, whose products would be
// too long.
func TestAlikeAtTheBound(t *testing.T) {
	top := tallest(api.MaxList)
	for i, x := range []struct {
		v, w           []int
		alike, commute bool
	}{
		{top, top, true, true},
		{top, behind(top[17:], top[:17]), true, false},
		{top, behind(word(2), row(api.MaxList-1, 1)), true, false},
		{top, back(top), false, true},
		{top, nil, false, true},
		{top, row(api.MaxList/2, 1, -1), false, true},
		{row(api.MaxList, 1), row(api.MaxList, 1), true, true},
		{row(api.MaxList, 1), row(api.MaxList-1, 1), false, true},
		{row(api.MaxList, 1), row(api.MaxList, -1), false, true},
		{row(2048, 1, 2), row(2048, 2, 1), true, false},
		{row(2048, 1, 2), row(1000, 1, 2), false, true},
		{row(2048, 1, 2), row(1000, -2, -1), false, true},
		{behind(row(2047, -9), word(5, 6), row(2047, 9)), behind(row(2047, 8), word(6, 5), row(2047, -8)), true, false},
		{behind(row(2047, -9), word(5, 6), row(2047, 9)), behind(row(2047, -9), word(-6, -5), row(2047, 9)), false, true},
		{behind(row(2047, -9), word(5, 6), row(2047, 9)), behind(row(2047, 8), word(6, 6), row(2047, -8)), false, false},
	} {
		got, e := words.Alike(x.v, x.w)
		wantBool(t, fmt.Sprint("Alike ", i), got, e, x.alike)
		got, e = words.Alike(x.w, x.v)
		wantBool(t, fmt.Sprint("Alike ", i, ", in the other order"), got, e, x.alike)
		got, e = words.Commute(x.v, x.w)
		wantBool(t, fmt.Sprint("Commute ", i), got, e, x.commute)
		got, e = words.Commute(x.w, x.v)
		wantBool(t, fmt.Sprint("Commute ", i, ", in the other order"), got, e, x.commute)
	}
}

// P16.4: the examples of the chapter, all pairs of words of few letters.
func TestCommute(t *testing.T) {
	got, e := words.Commute(word(1, 1), word(-1, -1, -1))
	wantBool(t, "Commute of 1 1, -1 -1 -1", got, e, true)
	got, e = words.Commute(word(1), word(2))
	wantBool(t, "Commute of 1, 2", got, e, false)
	got, e = words.Commute(nil, nil)
	wantBool(t, "Commute of empty words", got, e, true)
	l := few(4)
	for _, v := range l {
		for _, w := range l {
			got, e := words.Commute(v, w)
			wantBool(t, fmt.Sprint("Commute of ", v, w), got, e, slices.Equal(taken(behind(v, w)), taken(behind(w, v))))
		}
	}
}
