package console_test

import (
	"strings"
	"testing"
)

func TestLines(t *testing.T) { // P32.1
	for text, want := range map[string]string{
		"":                        "",
		"\n":                      "",
		"\n\n\n":                  "",
		" ":                       "",
		"   \n \n  ":              "",
		"count 2 3":               "36\n",
		"count 2 3\n":             "36\n",
		"count 2 3\n\n":           "36\n",
		"count 2 3\n ":            "36\n",
		"\ncount 2 3\n":           "36\n",
		"count 2 3\nrow 1":        "36\n0\n1\n",
		"count 2 3\nrow 1\n":      "36\n0\n1\n",
		"count 2 3\n \n\nrow 1":   "36\n0\n1\n",
		"count 2 3\nfly":          "36\nerror 2\n",
		"fly\ncount 2 3":          "error 2\n36\n",
		"count 2 3\nrow 0\nrow 1": "36\n0\n1\n",
		"f":                       "error 2\n",
		"f\n":                     "error 2\n",
	} {
		wantRun(t, text, want)
	}
}

// Words are parted by byte 32 alone, and there may be any number of these, but for a
// statement's line.
func TestWords(t *testing.T) { // P32.1
	for text, want := range map[string]string{
		" count 2 3":           "36\n",
		"count 2 3 ":           "36\n",
		"  count   2    3   ":  "36\n",
		"count 2 3\r":          "error 2\n",
		"\tcount 2 3":          "error 2\n",
		"count\t2 3":           "error 2\n",
		"count 2\t3":           "error 2\n",
		"count 2 3\t":          "error 2\n",
		"count 2 3 \t":         "error 2\n",
		"\t":                   "error 2\n",
		"\r\n":                 "error 2\n",
		"\x00":                 "error 2\n",
		"\x00count 2 3":        "error 2\n",
		"count 2 3\x00":        "error 2\n",
		"count\x0b2 3":         "error 2\n",
		"count\x0c2 3":         "error 2\n",
		"count\xa02 3":         "error 2\n",
		"count\xc2\xa02 3":     "error 2\n",
		"count\xe2\x80\x832 3": "error 2\n",
		"count\xc2\x852 3":     "error 2\n",
		"\xff":                 "error 2\n",
		" \xff ":               "error 2\n",
		"count 2 \xff":         "error 2\n",
		"\xc3\xa4 2 3":         "error 2\n",
		"\xa0count 2 3":        "error 2\n",
		"count 2 3\xa0":        "error 2\n",
		"cOunt 2 3":            "error 2\n",
		"Count 2 3":            "error 2\n",
		"COUNT 2 3":            "error 2\n",
		"coun 2 3":             "error 2\n",
		"counts 2 3":           "error 2\n",
		"count2 3":             "error 2\n",
		"count23":              "error 2\n",
		"'count' 2 3":          "error 2\n",
		"count 2 3 # no more":  "error 2\n",
		"# count 2 3":          "error 2\n",
	} {
		wantRun(t, text, want)
	}
}

// Each byte as a line, ahead of an order, behind it, and between two words.
func TestBytes(t *testing.T) { // P32.1
	for c := range 256 {
		b := string([]byte{byte(c)})
		alone, beside, between := "error 2\n", "error 2\n", "error 2\n"
		switch b {
		case " ":
			alone, beside, between = "", "ok\n", "2\n"
		case "\n":
			alone, beside, between = "", "ok\n", "error 2\nerror 2\n"
		}
		wantRun(t, b, alone)
		wantRun(t, b+"keep", beside)
		wantRun(t, "keep"+b, beside)
		wantRun(t, "count 1"+b+"3", between)
	}
}

// A first word that is one of the shop's verbs wants just a statement's line.
func TestStatements(t *testing.T) { // P32.1
	for order, want := range map[string]string{
		"tell zero": "0", "tell q": "3/2-1/2i", "tell inf": "inf", "tell u": "1 0 -1", "tell j": "map 0 1 1 0", "tell conj": "turn 1 0 0 1", "tell a": "2 1 0", "tell f": "-1 0 1; 2 1 0; 2 -1 0; 3 2i 1", "tell n": "0 1; 1i 1+1i", "tell g": "0 1 0 1; 1 0 -1 1",
		"order r": "4", "on u i": "yes", "on u zero": "no", "lies u v": "apart", "draw u": "1", "draw l": "0", "draw f": "4", "draw n": "4", "draw zero": "0", "ratio zero one (2,0) (3,0)": "-1/3", "quotients (7/3,0)": "2; 3", "word [1] [2]": "1 2", "pack f #0": "-1; 2; 2; 3", "grow #4 r": "4", "far #1 i (0,2)": "5/4", "meet u l": "-1i; 1i",
		"point =new zero": "ok", "map =new (1,0) (2,0) (0,0) (1,0)": "ok", "mirrors =new": "ok", "then =new": "ok", "image =new j u": "ok", "four =new o a b c": "ok", "net =new #1 #1 (1,0) (-1,0) zero one i": "ok",
		"tell none": "", // of mirrors that are none
	} {
		wantAsk(t, order, want)
	}
	for order, want := range map[string]string{
		"tell  zero": "error 400", " tell zero": "error 400", "tell zero ": "error 400", "  tell zero": "error 400", "tell  ": "error 400", " tell": "error 400", "tell zero\r": "error 400", "tell zero\t": "error 400", "tell \tzero": "error 400", "tell Zero": "error 400", "tell =": "error 400", "tell #01": "error 400", "tell (1,2": "error 400", "tell (2/4,0)": "error 400", "tell 1": "error 400", "tell 1/2": "error 400", "tell zero\xff": "error 400", "tell " + strings.Repeat("a", 33): "error 400", "draw" + strings.Repeat(" x", 65): "error 400",
		"point  =new (0,0)": "error 400", "point =new  (0,0)": "error 400", " point =new (0,0)": "error 400", "point =new (0,0) ": "error 400", "point = (0,0)": "error 400", "point =New (0,0)": "error 400", "point =zero  (0,0)": "error 400",
		"tell": "error 410", "tell =new zero": "error 410", "tell zero one": "error 410", "tell #1": "error 410", "tell (1,0)": "error 410", "tell (inf)": "error 410", "tell []": "error 410", "point (0,0)": "error 410", "point =new": "error 410", "point =new #1": "error 410", "point =new (0,0) (1,0)": "error 410", "draw" + strings.Repeat(" x", 64): "error 410", "mirrors =new u #2": "error 410", "net =new #1 #1 (1,0) (-1,0) zero one": "error 410", "disk =new (0,0) (0,1)": "error 410",
		"tell nobody": "error 401", "point =zero (0,0)": "error 401", "lies nobody zero": "error 401", "draw nobody": "error 401", "point =new nobody": "error 401",
		"order zero": "error 411", "point =new u": "error 411", "lies u zero": "error 411", "image =new j conj": "error 411", "pack n #1": "error 411", "tell zero =new": "error 400",
		"map =new (0,0) (0,0) (0,0) (0,0)": "error 180", "circle =new zero zero one": "error 181", "ratio zero zero zero one": "error 200", "round =new (0,0) (0,0)": "error 210", "meet u v": "error 7", "meet u (1,0)": "error 410", "disk =new (0,0) (0,0)": "error 5", "four =new o a b aout": "error 300", "far #3 i i": "error 2", "far #1 i zero": "error 350", "member =new f #9999999": "error 2", "swap =new f #4": "error 2", "pack f #4097": "error 310", "half =new (1,1) (0,0)": "error 7", "point =new (" + power(8192) + ",0)": "error 400",
	} {
		wantRefused(t, want, order)
	}
}

// A word that begins with a verb, or is one with other bytes, is none.
func TestNoVerbs(t *testing.T) { // P32.1
	wantRefused(t, "error 2", []string{"tell\tzero", "tells zero", "tel zero", "Tell zero", "tell= zero", "=tell zero", "tell\x00 zero", "point\t=new (0,0)", "Point =new (0,0)", "points =new (0,0)", "point=new (0,0)", "x tell zero", "#1", "(1,0)", "(inf)", "[]", "=new", "-", "error 2", "ok", "zero"}...)
}

// Each of the shop's verbs is done by the shop: alone they want more behind them, but
// for those that any number of things may stand behind.
func TestEachVerb(t *testing.T) { // P32.1
	alone := map[string]string{"word": "."}
	for _, verb := range strings.Fields(makes + " " + asks) {
		want := alone[verb]
		if want == "" {
			want = "error 410"
		}
		wantAsk(t, verb, want)
		if want == "error 410" {
			wantRefused(t, "error 400", verb+"  ", " "+verb, verb+" =zero nobody X")
		}
		wantRefused(t, "error 2", verb+"s")
	}
	named := map[string]string{"then": "ok", "mirrors": "ok"}
	for _, verb := range strings.Fields(makes + " " + asks) {
		want := named[verb]
		if want == "" {
			want = "error 410"
		}
		wantAsk(t, verb+" =new", want)
	}
}
