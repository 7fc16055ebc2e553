package shop_test

import (
	"math/big"
	"slices"
	"strings"
	"testing"

	"tracery/api"
)

// What each verb answers that asks.
func TestAsks(t *testing.T) { // P31.1
	s := shopOf(t, stock)
	for _, x := range []struct {
		line string
		want []string
	}{
		{"tell q", []string{"3/2-1/2i"}}, {"tell inf", []string{"inf"}}, {"tell m", []string{"map 2 1 0 1"}}, {"tell t", []string{"turn 1 1i 0 1"}}, {"tell u", []string{"1 0 -1"}}, {"tell y", []string{"0 1 -1"}},
		{"tell c", []string{"3 2i 1"}}, {"tell h", []string{"0 -1i 0"}}, {"tell f", []string{"-1 0 1", "2 1 0", "2 -1 0", "3 2i 1"}}, {"tell n", []string{"0 1 2", "1i 1+1i 2+1i", "2i 1+2i 2+2i"}}, {"tell ni", []string{"inf 0", "1i -1i"}},
		{"tell g", []string{"0 1 0 1", "0 1 -1 -1", "1 0 -1 1"}}, {"tell e", nil},
		{"ratio (0,0) (1,0) (2,0) (3,0)", []string{"-1/3"}}, {"ratio inf zero one two", []string{"-1"}}, {"ratio zero one one two", []string{"inf"}}, {"ratio zero zero one two", []string{"0"}}, {"ratio zero one i q", []string{"9/10+3/10i"}},
		{"on u i", []string{"yes"}}, {"on u (3/5,-4/5)", []string{"yes"}}, {"on u q", []string{"no"}}, {"on l inf", []string{"yes"}}, {"on u (inf)", []string{"no"}},
		{"lies u u", []string{"same"}}, {"lies u v", []string{"touching"}}, {"lies u y", []string{"crossing"}}, {"lies l y", []string{"touching"}}, {"lies v l", []string{"apart"}}, {"lies l v", []string{"apart"}},
		{"meet u v", []string{"1"}}, {"meet l y", []string{"inf"}}, {"meet u l", []string{"-1i", "1i"}},
		{"far #1 i (0,2)", []string{"5/4"}}, {"far #1 i i", []string{"1"}}, {"far #2 zero (1/2,0)", []string{"5/3"}},
		{"order m", []string{"0"}}, {"order j", []string{"2"}}, {"order r", []string{"4"}}, {"order t", []string{"2"}},
		{"pack f #0", []string{"-1", "2", "2", "3"}}, {"pack f #1", []string{"-1", "2", "2", "3", "15", "6", "6", "3"}}, {"pack k #0", []string{"-2", "4", "4", "6"}},
		{"quotients (7/3,0)", []string{"2", "3"}}, {"quotients (1/2,1/2)", []string{"0", "1-1i"}}, {"quotients (0,0)", []string{"0"}},
		{"word", []string{"."}}, {"word []", []string{"."}}, {"word [] [1.2] []", []string{"1 2"}}, {"word [1.2] [-2.3]", []string{"1 3"}}, {"word [1] [-1]", []string{"."}}, {"word [64.-64.-64]", []string{"-64"}}, {"word [1] [2] [1]", []string{"1 2 1"}},
		{"grow #0", []string{"1"}}, {"grow #5", []string{"1"}}, {"grow #0 r", []string{"1"}}, {"grow #1 r", []string{"3"}}, {"grow #9 r", []string{"4"}}, {"grow #2 m", []string{"5"}}, {"grow #2 j m", []string{"10"}},
	} {
		old := stateOf(t, s)
		wantLine(t, s, x.line, x.want...)
		wantState(t, x.line, s, old)
	}
}

func TestAsksRefused(t *testing.T) { // P31.1
	s := shopOf(t, stock+"; round =z (1,0) (1,0); round =z2 (9,0) (1,0); map =s (1,0) (1,0) (0,0) (1,0)")
	for line, e := range map[string]api.Errno{
		"ratio zero zero zero one": api.ErrSame, "ratio inf one inf (inf)": api.ErrSame,
		"meet u u": api.ErrNone, "meet u z2": api.ErrNone, "meet u z": 230,
		"far #0 i i": api.ErrArg, "far #3 i i": api.ErrArg, "far #2147483647 i i": api.ErrArg, "far #1 i zero": api.ErrOut, "far #1 (0,-1) i": api.ErrOut, "far #2 zero one": api.ErrOut, "far #1 i inf": api.ErrOut, "far #1 (inf) i": api.ErrOut, "far #2 (inf) zero": api.ErrOut, "far #2 zero inf": api.ErrOut,
		"pack f #7": api.ErrPacked, "pack f #2147483647": api.ErrPacked, "word [65]": api.ErrArg, "word [1] [-4096]": api.ErrArg,
		"grow #4097 r": api.ErrArg, "grow #2147483647": api.ErrArg, "grow #2048 s": api.ErrElems, "grow #4096 s": api.ErrElems,
	} {
		wantError(t, s, line, e)
	}
	wantLine(t, s, "grow #2047 s", "4095")
	if l := run(t, s, "pack f #6"); len(l) != 1460 {
		t.Error(len(l))
	}
}

// Long words: what is left may be as long as a word, what is handed in too.
func TestLongWords(t *testing.T) { // P31.1
	s := shopOf(t, stock)
	long := word(slices.Repeat([]int{7}, api.MaxList)...)
	wantDo(t, s, stmt("word", "", long), []string{strings.TrimSpace(strings.Repeat("7 ", api.MaxList))}, api.OK)
	wantDo(t, s, stmt("word", "", long, word(1)), nil, api.ErrLong)
	wantDo(t, s, stmt("word", "", long, word(1), word(65)), nil, api.ErrArg)
	wantDo(t, s, stmt("word", "", long, word(1), word(-1, -7), word(8)), []string{strings.Repeat("7 ", api.MaxList-1) + "8"}, api.OK)
}

// A group is looked at letter by letter: its maps' errors are those of group.
func TestGrowMany(t *testing.T) { // P31.1
	s := shopOf(t, stock)
	big := along(longest())
	wantDo(t, s, stmt("map", "z", big, along(plain(0)), along(plain(0)), along(plain(1))), nil, api.OK)
	wantLine(t, s, "grow #0 z", "1")
	wantLine(t, s, "grow #1 z", "3")
	wantError(t, s, "grow #2 z", api.ErrBig)
	wantError(t, s, "grow #4097 z", api.ErrArg)
}

// Quotients of Fibonacci's numbers: many lines.
func TestManyQuotients(t *testing.T) { // P31.1
	s := shopOf(t, stock)
	a, b := big.NewInt(1), big.NewInt(1)
	for a.BitLen() < 8*api.MaxWhole-1 {
		a, b = new(big.Int).Add(a, b), a
	}
	l, e := s.Do(stmt("quotients", "", along(over(a, b))))
	if e != api.OK || len(l) < 3000 || l[0] != "2" {
		t.Fatal(len(l), e)
	}
	x, y := new(big.Rat).SetFrac(a, b), new(big.Rat)
	for k := len(l) - 1; k >= 0; k-- { // back again
		q, ok := new(big.Rat).SetString(l[k])
		if !ok {
			t.Fatal(l[k])
		}
		if k < len(l)-1 {
			y.Inv(y)
		}
		y.Add(y, q)
	}
	if x.Cmp(y) != 0 {
		t.Error("another number")
	}
}
