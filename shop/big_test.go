package shop_test

import (
	"math/big"
	"testing"

	"tracery/api"
	"tracery/shop"
)

// longShop has things whose numbers are long, but may be.
func longShop(t *testing.T) *shop.Shop {
	t.Helper()
	s := shopOf(t, stock)
	zero, one, l, under := plain(0), plain(1), longest(), twos(1-8*api.MaxWhole)
	scale := func(name string, by api.Frac) api.Stmt {
		return stmt("map", name, along(by), along(zero), along(zero), along(one))
	}
	for _, x := range []api.Stmt{
		stmt("point", "far", along(l)), stmt("point", "near", along(under)), stmt("point", "high", number(zero, l)), stmt("point", "low", number(zero, under)),
		stmt("point", "odd", number(twos(-4000), over(big.NewInt(1), new(big.Int).Exp(big.NewInt(3), big.NewInt(2600), nil)))),
		scale("out", l), scale("in", under), scale("wide", twos(4500)), scale("tiny", twos(-8190)), scale("small", twos(-8160)), stmt("map", "both", along(l), along(twos(-8000)), along(zero), along(one)),
		stmt("line", "steep", number(one, twos(4800)), along(zero)), stmt("round", "ring", along(twos(2000)), along(twos(-2000))), stmt("round", "other", along(twos(2001)), along(twos(-2001))),
		stmt("line", "flat", number(one, twos(8000)), along(one)), stmt("line", "upright", number(plain(3), one), number(plain(2), twos(-1000))),
		stmt("disk", "d", along(twos(4801)), along(twos(4800))), stmt("half", "hp", number(plain(3), plain(4)), along(twos(8000))),
		{Verb: "image", Name: "least", Args: []api.Arg{named("tiny"), named("f")}}, {Verb: "image", Name: "less", Args: []api.Arg{named("small"), named("f")}},
		stmt("net", "square", count(1), count(1), along(one), along(plain(-1)), along(zero), along(twos(8190)), number(zero, twos(8190))),
	} {
		wantDo(t, s, x, nil, api.OK)
	}
	return s
}

// Numbers as long as may be: what each layer refuses as too big.
func TestBig(t *testing.T) { // P31.1
	s := longShop(t)
	zero, one, l, under := plain(0), plain(1), longest(), twos(1-8*api.MaxWhole)
	for _, x := range []api.Stmt{
		read(t, "fourth =z far one low two"), read(t, "bring =z g odd #9"), read(t, "home =z odd"), read(t, "send =z far near low one two inf"), read(t, "circle =z far near low"),
		stmt("map", "z", along(l), along(zero), along(zero), along(under)), stmt("turn", "z", along(under), along(zero), along(zero), along(l)),
		read(t, "over =z steep"), read(t, "then =z out out"), read(t, "then =z j in in"), read(t, "back =z both"),
		stmt("round", "z", along(l), along(one)), stmt("line", "z", number(one, l), number(zero, l)), stmt("mix", "z", named("u"), named("steep"), along(one), along(twos(4000))),
		stmt("disk", "z", along(l), along(one)), stmt("half", "z", number(plain(3), plain(4)), number(l, under)), stmt("knife", "z", along(twos(-5000))),
		read(t, "member =z less #1048576"), read(t, "swap =z least #0"), read(t, "mirrors =z u #1 steep #0"),
		read(t, "image =z out far"), read(t, "image =z wide ring"), read(t, "image =z out d"), read(t, "image =z tiny least"), read(t, "image =z wide square"),
		stmt("net", "z", count(1), count(1), along(one), along(plain(-1)), along(l), along(under), number(zero, l)), stmt("flip", "z", named("square"), along(plain(2)), number(zero, under)),
		read(t, "ratio far near low two"), read(t, "meet flat upright"), read(t, "far #1 high low"), read(t, "pack least #1"), read(t, "grow #2 out"), read(t, "draw d"),
	} {
		wantDo(t, s, x, nil, api.ErrBig)
	}
	// ErrBig is behind the layers' own errors, and what is not told may have any length.
	for line, e := range map[string]api.Errno{
		"fourth =z far far near two": api.ErrSame, "send =z far near low far far inf": api.ErrTwins, "circle =z far far low": api.ErrTwins, "member =z less #1048577": api.ErrArg, "swap =z least #4": api.ErrArg, "ratio far far near far": api.ErrSame,
		"far #1 high near": api.ErrOut, "far #0 high low": api.ErrArg, "pack least #7": api.ErrPacked, "grow #4097 out": api.ErrArg, "meet ring other": api.ErrNone, "draw ring": api.ErrFloat,
	} {
		wantError(t, s, line, e)
	}
	for line, want := range map[string][]string{
		"on ring far": {"no"}, "lies ring other": {"apart"}, "lies steep ring": {"crossing"}, "order both": {"0"}, "order out": {"0"}, "grow #1 out": {"3"}, "draw hp": {"0"}, "draw steep": {"0"}, "on steep inf": {"yes"},
	} {
		wantLine(t, s, line, want...)
	}
}

// What is longest is made, and told: Text knows no ErrBig.
func TestLongTexts(t *testing.T) { // P31.1, P31.3
	s := longShop(t)
	l := new(big.Int).Sub(power(8*api.MaxWhole), big.NewInt(1)).String()
	one := "1/" + power(8*api.MaxWhole-1).String()
	wantText(t, s, "far", l)
	wantText(t, s, "low", one+"i")
	wantText(t, s, "out", "map "+l+" 0 0 1")
	wantText(t, s, "d", "1/"+power(4800).String()+" 2 "+new(big.Int).Mul(big.NewInt(3), power(4800)).String())
	side := power(8190).String()
	wantText(t, s, "square", "0 "+side, side+"i "+side+"+"+side+"i")
	wantLine(t, s, "then =z out in") // its numbers are short enough together
	wantText(t, s, "z", "map "+l+"/"+power(8*api.MaxWhole-1).String()+" 0 0 1")
}
