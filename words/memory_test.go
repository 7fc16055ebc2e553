package words_test

import (
	"fmt"
	"math/rand"
	"slices"
	"testing"

	"tracery/words"
)

const spoilt = 12345

// spoil writes over a list and the spare room behind it.
func spoil(w []int) {
	for i := range w[:cap(w)] {
		w[:cap(w)][i] = spoilt
	}
}

// roomy is w with spare room behind it, in which something stands.
func roomy(w []int) []int {
	return append(slices.Clone(w), 77, 78, 79, 80)[:len(w)]
}

func whole(w []int) []int { return slices.Clone(w[:len(w)+4]) }

// answers are the lists that each call tells of some words.
func answers(v, w, u []int) map[string]func() [][]int {
	one := func(w []int, _ any) [][]int { return [][]int{w} }
	return map[string]func() [][]int{
		"Short":   func() [][]int { a, e := words.Short(v...); return one(a, e) },
		"Inverse": func() [][]int { a, e := words.Inverse(v...); return one(a, e) },
		"Mul 1":   func() [][]int { a, e := words.Mul(v); return one(a, e) },
		"Mul 3":   func() [][]int { a, e := words.Mul(v, w, u); return one(a, e) },
		"Mul one": func() [][]int { a, e := words.Mul(nil, v, nil); return one(a, e) },
		"Pow 0":   func() [][]int { a, e := words.Pow(v, 0); return one(a, e) },
		"Pow 1":   func() [][]int { a, e := words.Pow(v, 1); return one(a, e) },
		"Pow -1":  func() [][]int { a, e := words.Pow(v, -1); return one(a, e) },
		"Pow 3":   func() [][]int { a, e := words.Pow(v, 3); return one(a, e) },
		"Conj":    func() [][]int { a, e := words.Conj(v, w); return one(a, e) },
		"Conj by none": func() [][]int {
			a, e := words.Conj(v, nil)
			return one(a, e)
		},
		"Core": func() [][]int { a, b, _ := words.Core(v...); return [][]int{a, b} },
		"Root": func() [][]int { a, _, e := words.Root(v...); return one(a, e) },
		"Put":  func() [][]int { a, e := words.Put(word(1, -2, 3, 1), v, w, u); return one(a, e) },
		"Put one": func() [][]int {
			a, e := words.Put(word(1), v)
			return one(a, e)
		},
		"Alike":   func() [][]int { words.Alike(v, w); return nil },
		"Commute": func() [][]int { words.Commute(v, w); return nil },
		"Cmp":     func() [][]int { words.Cmp(v, w); return nil },
		"Text":    func() [][]int { words.Text(v...); return nil },
		"Check":   func() [][]int { words.Check(v...); return nil },
	}
}

// P16.1 to P16.7: what is handed in stays, spare room included, and is not
// kept; what is told is new, and no two lists of one answer share any memory.
func TestAnswersAreNew(t *testing.T) {
	r := rand.New(rand.NewSource(168))
	for range 60 {
		by := mixed(r, 3, r.Intn(4))
		v := roomy(behind(back(by), mixed(r, 2, r.Intn(9)), by))
		w, u := roomy(mixed(r, 3, r.Intn(6))), roomy(back(v))
		given := [][]int{whole(v), whole(w), whole(u)}
		for name, do := range answers(v, w, u) {
			first := do()
			var want [][]int
			for _, a := range first {
				want = append(want, slices.Clone(a))
			}
			for i, a := range first {
				spoil(a)
				for j, b := range first {
					if j > i && !slices.Equal(b, want[j]) {
						t.Fatalf("%s of %v: the answers share memory", name, v)
					}
				}
			}
			for i, list := range [][]int{v, w, u} {
				if !slices.Equal(whole(list), given[i]) {
					t.Fatalf("%s: list %d is %v, not %v", name, i, whole(list), given[i])
				}
			}
			if got := do(); !slices.EqualFunc(got, want, slices.Equal[[]int]) {
				t.Fatal(fmt.Sprint(name, " of ", v, w, u, ": ", got, ", not ", want))
			}
		}
	}
}
