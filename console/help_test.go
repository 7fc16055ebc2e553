package console_test

import (
	"math/big"
	"strings"
	"testing"

	"tracery/api"
	"tracery/console"
)

// run does a text that is not too long, and asks that the same text answers the same
// again: nothing is kept from call to call.
func run(t *testing.T, text string) string {
	t.Helper()
	s, e := console.Run(text)
	if e != api.OK {
		t.Fatalf("%.300q: %v", text, e)
	}
	if again, f := console.Run(text); again != s || f != e {
		t.Fatalf("%.300q: %.300q, and then %.300q, %v", text, s, again, f)
	}
	return s
}

// ended are lines, each with its end.
func ended(lines ...string) string {
	var text strings.Builder
	for _, l := range lines {
		text.WriteString(l + "\n")
	}
	return text.String()
}

// wantRun asks for the whole answer of a text, byte by byte.
func wantRun(t *testing.T, text, want string) {
	t.Helper()
	if s := run(t, text); s != want {
		t.Fatalf("%.500q: %.1000q, not %.1000q", text, s, want)
	}
}

// wantLines asks for the answers, line by line, of orders that have ; between.
func wantLines(t *testing.T, orders, answers string) {
	t.Helper()
	wantRun(t, ended(parts(orders)...), ended(parts(answers)...))
}

// parts are what stands between two semicolons, without blanks at both ends.
func parts(text string) []string {
	var l []string
	for _, x := range strings.Split(text, ";") {
		if x = strings.TrimSpace(x); x != "" {
			l = append(l, x)
		}
	}
	return l
}

// behind is what one text answers behind another one.
func behind(t *testing.T, first, text string) string {
	t.Helper()
	s, e := console.Run(first + text)
	old, f := console.Run(first)
	if e != api.OK || f != api.OK {
		t.Fatalf("%.300q: %v, %v", text, e, f)
	}
	rest, is := strings.CutPrefix(s, old)
	if !is {
		t.Fatalf("behind %.300q, %.300q changes what was answered ahead of it", first, text)
	}
	return rest
}

// wantAsk asks for the answer of one order behind the stock's statements, with ;
// between its lines.
func wantAsk(t *testing.T, order, answer string) {
	t.Helper()
	if s, want := behind(t, stock(), order), ended(parts(answer)...); s != want {
		t.Fatalf("%.300q: %.1000q, not %.1000q", order, s, want)
	}
}

// all asks about all that a desk tells by its things and its picture.
const all = "things\npicture\nbox\n"

// wantRefused asks that each of some orders is refused, and that they have changed
// nothing.
func wantRefused(t *testing.T, answer string, orders ...string) {
	t.Helper()
	first := stock() + "keep\ndraw u\n"
	const then = all + "restore\n" + all
	want := strings.Repeat(answer+"\n", len(orders)) + behind(t, first, then)
	if s := behind(t, first, ended(orders...)+then); s != want {
		for _, o := range orders {
			if s := behind(t, stock(), o); s != answer+"\n" {
				t.Fatalf("%.300q: %.1000q, not %s", o, s, answer)
			}
		}
		t.Fatalf("%.300q change what is told: %.1000q, not %.1000q", orders, s, want)
	}
}

// stock has things of each kind, the edges of each among them, and what is long. Of
// each statement the answer is ok.
func stock() string {
	return ended(parts(`point =zero (0,0); point =one (1,0); point =i (0,1); point =inf (inf); point =q (3/2,-1/2); point =third (-1/3,1/7);
point =long (` + power(8000) + `,1); point =tiny (-1/` + power(8000) + `,0); point =most (0,` + power(8191) + `);
map =still (1,0) (0,0) (0,0) (1,0); map =shift (1,0) (1,0) (0,0) (1,0); map =j (0,0) (1,0) (1,0) (0,0); map =twice (2,0) (0,0) (0,0) (1,0); map =r (0,1) (0,0) (0,0) (1,0);
map =spiral (0,2) (0,0) (0,0) (1,0); map =h (0,0) (-1,0) (1,0) (1,0); map =para (1,0) (0,0) (1,0) (1,0); turn =conj (1,0) (0,0) (0,0) (1,0); turn =six (0,0) (-1,0) (1,0) (1,0); turn =far (1,0) (1,0) (0,0) (1,0);
map =wide (` + sum(8000) + `/` + power(8000) + `,0) (` + power(8000) + `,0) (0,0) (1,0);
circle =u (1,0) (0,1) (-1,0); round =v (2,1) (1/4,0); line =l (1,0) (0,0); line =y (1,1) (1,0); line =s (1,` + power(5000) + `) (0,0);
disk =o (0,0) (-1,0); disk =a (1/2,0) (1/2,0); disk =b (-1/2,0) (1/2,0); disk =c (0,2/3) (1/3,0); disk =aout (1/2,0) (-1/2,0); half =low (0,1) (0,-1);
four =f o a b c; net =n #1 #1 (1,0) (-1,0) zero one i; mirrors =g l #1 u #1; mirrors =none`)...)
}

// names of the stock, by the letters of the orders' table.
func namesOf(kind byte) []string {
	return strings.Fields(map[byte]string{
		'P': "zero one i inf q third long tiny most", 'M': "still shift j twice r spiral h para conj six far wide", 'C': "u v l y s",
		'D': "o a b c aout low", 'F': "f", 'N': "n", 'G': "g none",
	}[kind])
}

// power are the digits of 2 to the power n, sum those of one more.
func power(n uint) string { return new(big.Int).Lsh(big.NewInt(1), n).String() }

func sum(n uint) string {
	x := new(big.Int).Lsh(big.NewInt(1), n)
	return x.Add(x, big.NewInt(1)).String()
}

// less are the digits of one less.
func less(n uint) string {
	x := new(big.Int).Lsh(big.NewInt(1), n)
	return x.Sub(x, big.NewInt(1)).String()
}

// tableOf are the orders, and a letter for each word behind the first: X a name of
// any thing, P M C D of a thing of that kind, x a fraction, # a number.
func tableOf() map[string]string {
	return map[string]string{
		"things": "", "show": "X", "near": "P", "kind": "M", "stay": "M", "centre": "C", "chord": "PP", "touch": "DD", "ford": "x", "best": "x#",
		"row": "#", "way": "x", "count": "##", "picture": "", "box": "", "keep": "", "restore": "", "new": "", "scene": "#",
	}
}

// verbsOf are the shop's verbs, those that make, and those that ask.
const (
	makes = "point fourth bring home map turn send over then back circle round line mix disk half member four swap knife net flip mirrors image"
	asks  = "tell ratio on lies meet far order pack quotients word grow draw"
)
