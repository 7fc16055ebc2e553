package words_test

import (
	"fmt"
	"math/rand"
	"slices"
	"testing"

	"tracery/api"
	"tracery/words"
)

// P16.8: products do not hang on how they are bracketed; a word and its inverse
// are the empty word.
func TestProductsAreBracketedAnyhow(t *testing.T) {
	r := rand.New(rand.NewSource(1680))
	for range 3000 {
		u, v, w := mixed(r, 2, r.Intn(20)), mixed(r, 2, r.Intn(20)), mixed(r, 2, r.Intn(20))
		all, e := words.Mul(u, v, w)
		uv, _ := words.Mul(u, v)
		vw, _ := words.Mul(v, w)
		got, f := words.Mul(uv, w)
		wantWord(t, fmt.Sprint("left of ", u, v, w), got, f, must(t, all, e))
		got, f = words.Mul(u, vw)
		wantWord(t, fmt.Sprint("right of ", u, v, w), got, f, all)
		back, _ := words.Inverse(u...)
		got, f = words.Mul(u, back)
		wantWord(t, fmt.Sprint("there and back ", u), got, f, nil)
		got, f = words.Mul(back, u)
		wantWord(t, fmt.Sprint("back and there ", u), got, f, nil)
		conj, _ := words.Mul(back, v, u)
		got, f = words.Conj(v, u)
		wantWord(t, fmt.Sprint("Conj of ", v, u), got, f, conj)
	}
}

// P16.8: powers add up, and a power is as many products.
func TestPowersAddUp(t *testing.T) {
	r := rand.New(rand.NewSource(1681))
	for range 1000 {
		w := mixed(r, 2, r.Intn(12))
		n, m := r.Intn(13)-6, r.Intn(13)-6
		a, _ := words.Pow(w, n)
		b, _ := words.Pow(w, m)
		both, e := words.Mul(a, b)
		got, f := words.Pow(w, n+m)
		wantWord(t, fmt.Sprint("Pow of ", w, n, m), got, f, must(t, both, e))
		both, e = words.Pow(a, m)
		got, f = words.Pow(w, n*m)
		wantWord(t, fmt.Sprint("Pow of a Pow of ", w, n, m), got, f, must(t, both, e))
	}
}

// P16.8: All tells as many of each length as Count says; they rise, and are
// short.
func TestAllTellsAsManyAsCount(t *testing.T) {
	for _, x := range []struct{ letters, most int }{{1, 40}, {2, 8}, {3, 6}, {4, 5}, {7, 4}, {20, 3}, {64, 2}, {63, 2}} {
		seq, e := words.All(x.letters, x.most)
		if e != api.OK {
			t.Fatal(e)
		}
		many := make([]uint64, x.most+1)
		var last []int
		first := true
		for w := range seq {
			many[len(w)]++
			if n, e := words.Cmp(last, w); e != api.OK || n != -1 && !first {
				t.Fatalf("%v comes ahead of %v", last, w)
			}
			if s, _ := words.Short(w...); !slices.Equal(s, w) {
				t.Fatalf("%v is not short", w)
			}
			last, first = w, false
		}
		for n, got := range many {
			if want, e := words.Count(x.letters, n); e != api.OK || got != want {
				t.Errorf("%d letters: %d words of %d, not %d, %v", x.letters, got, n, want, e)
			}
		}
	}
}

// P16.8: two words commute just if their Roots are the same, or inverse to each
// other, or one short form is empty.
func TestCommuteByRoots(t *testing.T) {
	l := few(4)
	r := rand.New(rand.NewSource(1682))
	for range 60 {
		w := mixed(r, 2, 1+r.Intn(6))
		for range 4 {
			p, e := words.Pow(w, r.Intn(7)-3)
			l = append(l, must(t, p, e))
		}
	}
	for _, v := range l {
		for _, w := range l {
			a, _, e := words.Root(v...)
			b, _, f := words.Root(w...)
			want := e == api.ErrNone || f == api.ErrNone || slices.Equal(a, b) || slices.Equal(a, back(b))
			got, g := words.Commute(v, w)
			wantBool(t, fmt.Sprint("Commute of ", v, w), got, g, want)
		}
	}
}

// P16.8: a Root is its own Root, n being 1; its power is the short form.
func TestRootIsItsOwn(t *testing.T) {
	r := rand.New(rand.NewSource(1683))
	for range 2000 {
		w := row(1+r.Intn(5), mixed(r, 2, 1+r.Intn(9))...)
		short, _ := words.Short(w...)
		root, n, e := words.Root(w...)
		if len(short) == 0 {
			continue
		}
		power, f := words.Pow(must(t, root, e), n)
		wantWord(t, fmt.Sprint("the root's power, of ", w), power, f, short)
		wantRoot(t, root, root, 1)
		wantRoot(t, back(short), back(root), n)
	}
}

// P16.8: Conj keeps products, and brings a word to one that is alike; Put keeps
// products and inverses.
func TestConjAndPutKeepProducts(t *testing.T) {
	r := rand.New(rand.NewSource(1684))
	for range 1500 {
		v, w, by := mixed(r, 2, r.Intn(9)), mixed(r, 2, r.Intn(9)), mixed(r, 3, r.Intn(9))
		a, _ := words.Conj(v, by)
		b, _ := words.Conj(w, by)
		product, _ := words.Mul(v, w)
		want, e := words.Conj(product, by)
		got, f := words.Mul(a, b)
		wantWord(t, fmt.Sprint("Conj of ", v, w, by), got, f, must(t, want, e))
		alike, e := words.Alike(v, a)
		wantBool(t, fmt.Sprint("Alike of ", v, a), alike, e, true)
		images := [][]int{mixed(r, 3, r.Intn(5)), mixed(r, 3, r.Intn(5))}
		a, _ = words.Put(v, images...)
		b, _ = words.Put(w, images...)
		want, e = words.Put(product, images...)
		got, f = words.Mul(a, b)
		wantWord(t, fmt.Sprint("Put of ", v, w, images), got, f, must(t, want, e))
	}
}
