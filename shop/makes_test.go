package shop_test

import (
	"slices"
	"testing"

	"tracery/api"
	"tracery/flips"
	"tracery/nets"
)

// What each verb makes, told by its text.
func TestMakes(t *testing.T) { // P31.1
	const strip = "half =low (0,1) (0,0); half =high (0,-1) (0,2); disk =first (0,1) (1,0); disk =second (2,1) (1,0); four =s low high first second"
	s := shopOf(t, stock+";"+strip)
	for _, x := range []struct {
		line string
		want []string
	}{
		{"point =z (-3/2,5)", []string{"-3/2+5i"}}, {"point =z (inf)", []string{"inf"}}, {"point =z inf", []string{"inf"}}, {"point =z q", []string{"3/2-1/2i"}},
		{"fourth =z zero one inf two", []string{"1/2"}}, {"fourth =z (0,0) (1,0) (inf) (inf)", []string{"0"}}, {"fourth =z (0,0) (1,0) (inf) (0,0)", []string{"inf"}}, {"fourth =z (2,0) (0,0) (1,0) (1,0)", []string{"0"}},
		{"bring =z g (0,1/2) #9", []string{"2i"}}, {"bring =z g (2,1) #9", []string{"1i"}}, {"bring =z g (2,1) #3", []string{"1i"}}, {"bring =z g (-1/3,2) #1", []string{"1/3+2i"}}, {"bring =z g (inf) #0", []string{"inf"}}, {"bring =z e q #0", []string{"3/2-1/2i"}},
		{"home =z (7,1)", []string{"1i"}}, {"home =z (0,1/2)", []string{"2i"}}, {"home =z (1/2,2)", []string{"-1/2+2i"}}, {"home =z i", []string{"1i"}},
		{"map =z (2,0) (0,0) (0,0) (2,0)", []string{"map 1 0 0 1"}}, {"map =z (0,0) (2,0) (2,0) (4,0)", []string{"map 0 1 1 2"}}, {"map =z (0,1) (1,0) (0,2) (3,0)", []string{"map 1/2 -1/2i 1 -3/2i"}},
		{"turn =z (2,0) (0,0) (0,0) (2,0)", []string{"turn 1 0 0 1"}}, {"turn =z (0,0) (2,0) (2,0) (4,0)", []string{"turn 0 1 1 2"}},
		{"send =z zero one two one two inf", []string{"map 0 -2 1 -2"}}, {"send =z (0,0) (1,0) (inf) (1,0) (2,0) (inf)", []string{"map 1 1 0 1"}},
		{"over =z u", []string{"turn 0 1 1 0"}}, {"over =z l", []string{"turn -1 0 0 1"}},
		{"then =z", []string{"map 1 0 0 1"}}, {"then =z m", []string{"map 2 1 0 1"}}, {"then =z j m", []string{"map 0 1/2 1 1/2"}}, {"then =z m j", []string{"map 1 2 1 0"}}, {"then =z m m j", []string{"map 3 4 1 0"}}, {"then =z t t", []string{"map 1 0 0 1"}}, {"then =z r t", []string{"turn 1i -1 0 1"}},
		{"back =z m", []string{"map 1/2 -1/2 0 1"}}, {"back =z j", []string{"map 0 1 1 0"}},
		{"circle =z one i (-1,0)", []string{"1 0 -1"}}, {"circle =z zero one inf", []string{"0 1i 0"}}, {"circle =z (0,0) (2,0) (0,2)", []string{"1 -1+1i 0"}},
		{"round =z (1/2,0) (1/4,0)", []string{"1 -1/2 0"}}, {"round =z (1,2) (3,0)", []string{"1 -1+2i 2"}},
		{"line =z (1,0) (1,0)", []string{"0 1 -2"}}, {"line =z (0,5) (3,1)", []string{"0 1i 2"}}, {"line =z (1,1) (1,0)", []string{"0 1-1i -2"}},
		{"mix =z u v (1,0) (-1,0)", []string{"0 1 -2"}}, {"mix =z u v (1,0) (0,0)", []string{"1 0 -1"}}, {"mix =z u v (-1,0) (3,0)", []string{"1 -3 5"}},
		{"disk =z (1,0) (2,0)", []string{"1/2 1/2 -3/2"}}, {"disk =z (0,0) (-1,0)", []string{"-1 0 1"}}, {"disk =z (0,1) (-1/3,0)", []string{"-3 -3i -8/3"}},
		{"half =z (0,2) (0,0)", []string{"0 -1i 0"}}, {"half =z (0,-1) (0,2)", []string{"0 1i 4"}}, {"half =z (3,4) (1,1)", []string{"0 -3/5-4/5i -14/5"}},
		{"member =z s #5", []string{"1 10+1i 100"}}, {"member =z k #1", []string{"6 3+2i 2"}}, {"member =z k #0", []string{"4 3 2"}}, {"member =z f #0", []string{"2 -1 0"}}, {"member =z s #1048576", []string{"1 2097152+1i 4398046511104"}},
		{"four =z o a b c", []string{"-1 0 1", "2 1 0", "2 -1 0", "3 2i 1"}}, {"four =z c b o a", []string{"3 2i 1", "2 -1 0", "-1 0 1", "2 1 0"}},
		{"swap =z f #0", []string{"15 4i 1", "2 1 0", "2 -1 0", "3 2i 1"}}, {"swap =z f #3", []string{"-1 0 1", "2 1 0", "2 -1 0", "3 -2i 1"}},
		{"knife =z (1/2,0)", []string{"-2 -1 0", "4 1 0", "4 3 2", "6 3+2i 2"}},
		{"net =z #2 #1 (1,0) (3,0) (-1,0) (0,0) (1,0) inf (0,1)", []string{"0 1 inf", "1i 1+1i 1+4i"}},
		{"net =z #1 #2 (-1,0) (1,0) (1,0) zero one i (0,2)", []string{"0 1", "1i 1+1i", "2i 1+2i"}},
		{"mirrors =z", nil}, {"mirrors =z u #0 l #1", []string{"1 0 -1 -1", "0 1 0 1"}}, {"mirrors =z u #1 u #0", []string{"1 0 -1 1", "1 0 -1 -1"}},
		{"image =z m q", []string{"4-1i"}}, {"image =z j zero", []string{"inf"}}, {"image =z j inf", []string{"0"}}, {"image =z t i", []string{"0"}},
		{"image =z m u", []string{"1 -1 -3"}}, {"image =z j y", []string{"1 -1 0"}}, {"image =z m a", []string{"1 2 3"}}, {"image =z m f", []string{"-1/2 -1/2 3/2", "1 2 3", "1 0 -1", "3/2 3/2+2i 7/2"}}, {"image =z j n", []string{"inf 1 1/2", "-1i 1/2-1/2i 2/5-1/5i", "-1/2i 1/5-2/5i 1/4-1/4i"}},
	} {
		c := s.Copy()
		wantLine(t, c, x.line)
		wantText(t, c, "z", x.want...)
		if c.Len() != s.Len()+1 || len(c.Picture()) != 0 {
			t.Errorf("%s: %d, %v", x.line, c.Len(), c.Picture())
		}
	}
}

// What the layers below refuse, each by its own error.
func TestMakesRefused(t *testing.T) { // P31.1
	s := shopOf(t, stock)
	for line, e := range map[string]api.Errno{
		"fourth =z zero (0,0) one (5,0)": api.ErrSame, "bring =z g (2,1) #2": api.ErrMany, "bring =z g (0,0) #4097": api.ErrArg, "bring =z g (0,1) #2147483647": api.ErrArg,
		"home =z inf": api.ErrNone, "home =z (3,0)": api.ErrNone, "home =z (0,-1)": api.ErrNone,
		"map =z (1,0) (2,0) (2,0) (4,0)": api.ErrFlat, "turn =z (0,0) (0,0) (0,0) (0,0)": api.ErrFlat,
		"send =z (0,0) (1,0) (1,0) (1,0) (2,0) (3,0)": api.ErrTwins, "send =z zero one two inf (inf) (3,0)": api.ErrTwins,
		"circle =z zero (0,0) one": api.ErrTwins, "round =z (0,0) (0,0)": api.ErrEmpty, "round =z (0,0) (-1,0)": api.ErrEmpty, "line =z (0,0) (1,0)": api.ErrEmpty,
		"mix =z u u (1,0) (-1,0)": api.ErrNone, "mix =z u v (0,0) (0,0)": api.ErrNone, "disk =z (1,0) (0,0)": api.ErrZero, "half =z (0,0) (1,0)": api.ErrZero, "half =z (1,1) (0,0)": api.ErrNone,
		"member =z k #1048577": api.ErrArg, "member =z f #2147483647": api.ErrArg, "four =z o a b b": api.ErrTouch, "four =z a b c h": api.ErrTouch, "four =z a a a a": api.ErrTouch,
		"swap =z f #4": api.ErrArg, "swap =z k #2147483647": api.ErrArg, "knife =z (0,0)": api.ErrArg, "knife =z (1,0)": api.ErrArg, "knife =z (-1/2,0)": api.ErrArg, "knife =z (3/2,0)": api.ErrArg,
		"net =z #1 #1 (1,0) (1,0) zero one i": api.ErrArg, "net =z #1 #1 (0,0) (1,0) zero one i": api.ErrArg, "net =z #1 #1 (1,0) (-1,0) zero one one": api.ErrNet, "net =z #1 #1 (1,0) (-1,0) zero (0,0) one": api.ErrNet,
		"net =z #0 #1 (1,0) zero one": api.ErrArg, "net =z #1 #0 (1,0) zero one": api.ErrArg, "net =z #0 #0 zero": api.ErrArg,
		"flip =z n (1,0) (3,1)": api.ErrArg, "flip =z n (0,0) (3,1)": api.ErrArg, "flip =z n (2,0) zero": api.ErrNet,
		"image =z w a": api.ErrNone, "image =z w f": api.ErrNone,
	} {
		wantError(t, s, line, e)
	}
}

// A net's points are handed on as they stand: those of the row with the corner, those
// of the column without.
func TestNetMade(t *testing.T) { // P31.1, P31.3
	s := shopOf(t, stock+"; net =z #2 #3 (1,0) (2,0) (0,1) (0,2) (0,3) q (inf) one two i (0,7)")
	i, n := func(re, im int64) api.Gauss { return api.Gauss{Re: plain(re), Im: plain(im)} }, func(re, im int64) api.Point {
		return api.Point{Z: api.Gauss{Re: plain(re), Im: plain(im)}}
	}
	q, e := s.Thing("q")
	x, f := s.Thing("z")
	if e != api.OK || f != api.OK || x.Kind != api.ThingNet {
		t.Fatal(e, f, x)
	}
	if !slices.Equal(x.Net.A, []api.Gauss{i(1, 0), i(2, 0)}) || !slices.Equal(x.Net.B, []api.Gauss{i(0, 1), i(0, 2), i(0, 3)}) {
		t.Errorf("%v", x.Net)
	}
	if !slices.Equal(x.Net.Row, []api.Point{q.Point, {Inf: true}, n(1, 0)}) || !slices.Equal(x.Net.Column, []api.Point{q.Point, n(2, 0), n(0, 1), n(0, 7)}) {
		t.Errorf("%v", x.Net)
	}
}

// A net flipped, and a net's image by a map that turns, which turns its labels.
func TestNetsOfNets(t *testing.T) { // P31.1, P31.3
	s := shopOf(t, stock+"; net =z #1 #2 (1,1) (0,2) (0,3) q one two i; flip =y2 z (2,1) (3,1); image =y3 t z")
	given, _ := s.Thing("z")
	n, e := nets.New(given.Net)
	if e != api.OK {
		t.Fatal(e)
	}
	by := api.Gauss{Re: plain(2), Im: plain(1)}
	flipped, e := flips.Flip(n, by, api.Point{Z: api.Gauss{Re: plain(3), Im: plain(1)}})
	if e != api.OK {
		t.Fatal(e)
	}
	turned, _ := s.Thing("t")
	image, e := n.Image(turned.Map)
	if e != api.OK {
		t.Fatal(e)
	}
	for name, want := range map[string]*nets.Net{"y2": flipped, "y3": image} {
		x, e := s.Thing(name)
		if e != api.OK || x.Kind != api.ThingNet {
			t.Fatal(name, e)
		}
		if got, e := nets.New(x.Net); e != api.OK || !got.Same(want) {
			t.Errorf("%s: %v", name, x.Net)
		}
	}
	if x, _ := s.Thing("y3"); x.Net.A[0] != (api.Gauss{Re: plain(1), Im: plain(-1)}) {
		t.Errorf("%v", x.Net.A)
	}
}

// Each thing stands from its statement on, and what it was made of stays.
func TestNamesStand(t *testing.T) { // P31.1
	s := shopOf(t, stock)
	wantError(t, s, "tell z", api.ErrName)
	run(t, s, "point =z (1,2); image =z2 m z; then =z3 m m; image =z4 z3 z2; point =a-0 z4")
	wantText(t, s, "z", "1+2i")
	wantText(t, s, "z2", "3+4i")
	wantText(t, s, "z3", "map 4 3 0 1")
	wantText(t, s, "z4", "15+16i")
	wantText(t, s, "a-0", "15+16i")
	// A verb's word is a name like others.
	run(t, s, "point =point (1,0); point =tell point")
	wantLine(t, s, "tell tell", "1")
}
