package arcs_test

import (
	"math"
	"math/rand"
	"slices"
	"strings"
	"testing"

	"tracery/api"
	"tracery/arcs"
)

func TestLike(t *testing.T) { // P29.7
	n, inf := minusNought(), math.Inf(1)
	quiet := math.NaN()
	l := append(goodArcs()[:30], wrongArcs()...)
	for _, a := range l {
		if !arcs.Like(a, a) {
			t.Fatalf("%v is not like itself", a)
		}
	}
	for _, a := range []api.Arc{{}, straight(1, 2), round(1, 2), half(), {Kind: math.MinInt, Left: true}} {
		for k := range 7 {
			for _, x := range [][2]float64{{0, n}, {quiet, inf}, {quiet, 0}, {inf, -inf}, {1, 1 + 0x1p-52}, {0, 0x1p-1074}} {
				b, c := withPart(a, k, x[0]), withPart(a, k, x[1])
				if arcs.Like(b, c) || arcs.Like(c, b) || !arcs.Like(b, b) || !arcs.Like(c, c) {
					t.Fatalf("Like(%v, %v)", b, c)
				}
			}
			// NaNs are alike, whatever their bits are.
			for _, x := range []float64{loud(), opposite(quiet), math.Float64frombits(0x7ff0000000000001)} {
				if b, c := withPart(a, k, quiet), withPart(a, k, x); !arcs.Like(b, c) || !arcs.Like(c, b) {
					t.Fatalf("Like(%v, %v)", b, c)
				}
			}
		}
		b := a
		b.Left = !a.Left
		c := a
		c.Kind++
		if arcs.Like(a, b) || arcs.Like(a, c) || arcs.Like(b, c) {
			t.Fatalf("Like(%v, %v, %v)", a, b, c)
		}
	}
	r := rand.New(rand.NewSource(305))
	for range 20000 {
		a, b := l[r.Intn(len(l))], l[r.Intn(len(l))]
		if arcs.Like(a, b) != likeArcs(a, b) {
			t.Fatalf("Like(%v, %v)", a, b)
		}
	}
}

const (
	noughts = "0000000000000000"
	one     = "3ff0000000000000"
)

func TestTextExamples(t *testing.T) { // P29.7
	n := minusNought()
	for _, x := range []struct {
		l    []api.Arc
		want string
	}{
		{nil, ""},
		{[]api.Arc{}, ""},
		{[]api.Arc{straight(0, 1)}, "straight 0000000000000000,0000000000000000 3ff0000000000000,0000000000000000\n"},
		{[]api.Arc{straight(complex(n, 0), -1)}, "straight 8000000000000000,0000000000000000 bff0000000000000,0000000000000000\n"},
		{[]api.Arc{round(1i, 0x1p-1074)}, "round 0000000000000000,3ff0000000000000 0000000000000001\n"},
		{[]api.Arc{bow(1, -1, 0, 1, true)}, "bow 3ff0000000000000,0000000000000000 bff0000000000000,0000000000000000 0000000000000000,0000000000000000 3ff0000000000000 left\n"},
		{[]api.Arc{bow(1, -1, 0.1i, math.MaxFloat64, false)}, "bow 3ff0000000000000,0000000000000000 bff0000000000000,0000000000000000 0000000000000000,3fb999999999999a 7fefffffffffffff right\n"},
		{[]api.Arc{round(0, 1), round(0, 1)}, "round " + noughts + "," + noughts + " " + one + "\nround " + noughts + "," + noughts + " " + one + "\n"},
	} {
		s, e := arcs.Text(x.l...)
		if s != x.want || e != api.OK {
			t.Errorf("Text(%v): %q, %v, not %q", x.l, s, e, x.want)
		}
		l, e := arcs.Read(x.want)
		wantArcs(t, told("Read", x.want), l, e, x.l, api.OK)
	}
}

func TestTextOrderOfErrors(t *testing.T) { // P29.7
	counts := tally{}
	for _, l := range listsAbout() {
		want, wantE := "", listError(l)
		if wantE == api.OK {
			want = textOf(l...)
		}
		s, e := arcs.Text(l...)
		if s != want || e != wantE {
			t.Fatalf("Text of %d arcs: %d bytes, %v, not %d, %v", len(l), len(s), e, len(want), wantE)
		}
		counts[e]++
	}
	counts.want(t, 2, api.OK, api.ErrArg, api.ErrLong)
}

func TestTextMany(t *testing.T) { // P29.7
	arcsOf(306, 2000, func(a api.Arc) {
		s, e := arcs.Text(a)
		if want := textOf(a); s != want || e != api.OK {
			t.Fatalf("Text(%v): %q, %v, not %q", a, s, e, want)
		}
	})
}

func wantRead(t *testing.T, s string) api.Errno {
	t.Helper()
	want, wantE := readOf(s)
	l, e := arcs.Read(s)
	if e != wantE || !slices.EqualFunc(l, want, likeArcs) {
		t.Fatalf("Read(%.300q): %v, %v, not %v, %v", s, l, e, want, wantE)
	}
	if e != api.OK && l != nil {
		t.Fatalf("Read(%.300q): a list beside %v", s, e)
	}
	return e
}

func TestReadRefuses(t *testing.T) { // P29.7
	z, nan, inf := noughts+","+noughts, "7ff8000000000000", "7ff0000000000000"
	for _, s := range []string{
		"\n", " \n", "\n\n", "x", "straight\n", "straight \n", "round\n", "bow\n",
		"straight " + z + "\n", "straight " + z + " " + z, "straight " + z + " " + z + " \n", " straight " + z + " " + z + "\n", "straight  " + z + " " + z + "\n", "straight " + z + "  " + z + "\n",
		"straight " + z + " " + z + " " + z + "\n", "straight " + z + " " + z + "\r\n", "straight\t" + z + " " + z + "\n", "Straight " + z + " " + z + "\n", "straight " + z + " " + z + "\n\n", "\nstraight " + z + " " + z + "\n",
		"straight " + z + " nan," + noughts + "\n", "straight nan,nan " + z + "\n", "straight " + z + " " + noughts + ",nan\n", "straight " + nan + "," + noughts + " " + z + "\n", "straight " + inf + "," + noughts + " " + z + "\n", "straight " + z + " " + noughts + ",f" + inf[1:] + "\n",
		"straight " + z + " 3FF0000000000000," + noughts + "\n", "straight " + z + " " + noughts[1:] + "," + noughts + "\n", "straight " + z + " 0" + noughts + "," + noughts + "\n", "straight " + z + " " + noughts + "\n", "straight " + z + " " + noughts + "," + noughts + "," + noughts + "\n", "straight " + z + " +00000000000000," + noughts + "\n", "straight " + z + " 0x00000000000000," + noughts + "\n", "straight " + z + " 0_00000000000000," + noughts + "\n", "straight 0,0 1,0\n",
		"round " + z + " " + noughts + "\n", "round " + z + " 8000000000000000\n", "round " + z + " b" + one[1:] + "\n", "round " + z + " " + inf + "\n", "round " + z + " " + nan + "\n", "round " + z + " nan\n", "round " + z + " 3FF0000000000000\n", "round " + z + " " + one[1:] + "\n", "round " + z + " " + one + "0\n", "round " + z + " " + one + "," + noughts + "\n", "round " + z + " " + one + "," + one + "\n", "round " + z + " " + one + " left\n", "round " + z + " " + z + "\n", "round " + one + " " + one + "\n",
		"bow " + z + " " + z + " " + z + " " + one + "\n", "bow " + z + " " + z + " " + z + " " + one + " \n", "bow " + z + " " + z + " " + z + " " + one + " Left\n", "bow " + z + " " + z + " " + z + " " + one + " true\n", "bow " + z + " " + z + " " + z + " " + one + " left right\n", "bow " + z + " " + z + " " + z + " " + one + " lefT\n", "bow " + z + " " + z + " " + one + " left\n", "bow " + z + " " + z + " " + z + " " + noughts + " left\n", "bow " + z + " " + z + " " + z + " " + inf + " right\n", "bow " + z + " " + z + " nan," + noughts + " " + one + " right\n", "bow " + z + " " + z + " " + z + " " + one + " left",
	} {
		l, e := arcs.Read(s)
		wantArcs(t, told("Read", s), l, e, nil, api.ErrArc)
		wantRead(t, s)
		// Behind, and ahead of, a good line it is refused as well.
		good := textOf(half())
		wantRead(t, good+s)
		wantRead(t, s+good)
	}
}

func TestReadBounds(t *testing.T) { // P29.7
	good := textOf(half())
	long := strings.Repeat(good, api.MaxList)
	for _, x := range []struct {
		what string
		s    string
		e    api.Errno
	}{
		{"nothing", "", api.OK},
		{"MaxList lines", long, api.OK},
		{"one more", long + good, api.ErrLong},
		{"MaxList lines, the last one without its end", long[:len(long)-1], api.ErrArc},
		{"one more, without its end", long + good[:len(good)-1], api.ErrLong},
		{"one byte behind MaxList lines", long + "x", api.ErrLong},
		{"MaxList ends", strings.Repeat("\n", api.MaxList), api.ErrArc},
		{"one more end", strings.Repeat("\n", api.MaxList+1), api.ErrLong},
		{"one byte behind one less", long[len(good):] + "x", api.ErrArc},
		{"MaxPicture bytes", strings.Repeat("x", api.MaxPicture), api.ErrArc},
		{"MaxPicture blanks", strings.Repeat(" ", api.MaxPicture), api.ErrArc},
		{"one byte more", strings.Repeat("x", api.MaxPicture+1), api.ErrLong},
		{"one byte more, an end", strings.Repeat("x", api.MaxPicture) + "\n", api.ErrLong},
		{"MaxPicture bytes behind a good line", good + strings.Repeat("x", api.MaxPicture-len(good)), api.ErrArc},
		{"one byte more behind a good line", good + strings.Repeat("x", api.MaxPicture-len(good)+1), api.ErrLong},
		{"too many lines, the first one being none", "\n" + long, api.ErrLong},
		{"as many lines as may be, the first one being none", "\n" + long[len(good):], api.ErrArc},
		{"as many lines as may be, the last one being none", long[len(good):] + "\n", api.ErrArc},
	} {
		l, e := arcs.Read(x.s)
		if e != x.e || (e != api.OK && l != nil) {
			t.Errorf("%s: %d arcs, %v, not %v", x.what, len(l), e, x.e)
		}
		wantRead(t, x.s)
	}
}

// Each byte of a text is left out, doubled, and changed for others.
func TestReadSpoilt(t *testing.T) { // P29.7
	counts := tally{}
	s := textOf(straight(1, -2i), round(0.1, 3), bow(1, 2i, 0.7, 1.5, true), bow(1, 2i, 0.7, 1.5, false))
	for k := range len(s) {
		counts[wantRead(t, s[:k])]++
		counts[wantRead(t, s[k:])]++
		counts[wantRead(t, s[:k]+s[k+1:])]++
		counts[wantRead(t, s[:k+1]+s[k:])]++
		for _, c := range []byte(" \n,-+_xX0189afgAFGlrbsn\x00\r\t\xff") {
			counts[wantRead(t, s[:k]+string([]byte{c})+s[k+1:])]++
			counts[wantRead(t, s[:k]+string([]byte{c})+s[k:])]++
		}
	}
	counts.want(t, 1000, api.OK, api.ErrArc)
}

func TestReadMany(t *testing.T) { // P29.7
	r := rand.New(rand.NewSource(307))
	for _, part := range kinds() {
		for range 500 {
			var l []api.Arc
			for range r.Intn(5) {
				l = append(l, part.arc(r))
			}
			// Some of them may not be: then the text is none.
			wantRead(t, textOf(l...))
		}
	}
}
