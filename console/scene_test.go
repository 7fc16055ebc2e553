package console_test

import (
	"strings"
	"testing"
)

func TestScene(t *testing.T) { // P32.1
	for _, r := range [][2]string{
		{"scene 0", "0 0\n"},
		{"scene 0\n", "0 0\n"},
		{"scene 0\ncount 2 3", "0 0\n36\n"},
		{"scene 1\npoint =p (0,0)", "1 0\n"},
		{"scene 1\npoint =p (0,0)\n", "1 0\n"},
		{"scene 1\npoint =p (0,0)\nshow p", "1 0\nerror 401\n"},
		{"scene 2\npoint =p (1,2)\ntell p\nrow 1", "2 0\n1+2i\n0\n1\n"},
		{" scene  2 \npoint =p (1,2)\ntell p\nrow 1", "2 0\n1+2i\n0\n1\n"},
		{"scene 4\ncircle =c (1,0) (0,1) (-1,0)\ntell c\non c (0,-1)\ndraw c", "4 0\n1 0 -1\nyes\n1\n"},
		{"scene 3\npoint =p (1,0)\nmirrors =m\ntell m\n", "3 0\n"},
		{"scene 3\nquotients (7/3,0)\nword\nword [1]\n", "3 0\n2\n3\n.\n1\n"},
		// Of a scene that the shop refuses: at the head, in the middle, at the end.
		{"scene 3\ntell p\npoint =p (0,0)\ntell p\n", "0 401\n"},
		{"scene 3\npoint =p (0,0)\ntell q\ntell p\n", "1 401\n"},
		{"scene 4\npoint =p (0,0)\ntell p\ntell q\ntell p\n", "2 401\n0\n"},
		{"scene 3\npoint =p (0,0)\ntell p\npoint =p (1,0)\n", "2 401\n0\n"},
		{"scene 2\nmap =m (0,0) (0,0) (0,0) (0,0)\nword\n", "0 180\n"},
		{"scene 2\nword\nround =u (0,0) (0,0)\n", "1 210\n.\n"},
		{"scene 1\ntell #1\n", "0 410\n"},
		{"scene 2\npoint =p (0,0)\norder p", "1 411\n"},
		// Orders that are no verbs of the shop's, but are read as statements.
		{"scene 1\nthings\nthings", "0 410\n"},
		{"scene 1\nshow p\n", "0 410\n"},
		{"scene 2\nword\nkeep\n", "1 410\n.\n"},
		{"scene 1\nrestore\nrestore", "0 410\nerror 7\n"},
		{"scene 1\nscene\n", "0 410\n"},
		{"scene 2\nscene #1\nword\n", "0 410\n"},
		{"scene 1\nnew\n", "0 410\n"},
	} {
		wantRun(t, r[0], r[1])
	}
}

// Lines that are no statements' are taken, and none of them is done.
func TestSceneOfNoStatements(t *testing.T) { // P32.1
	for _, l := range []string{"", " ", "   ", " word", "word ", "word  [1]", "word\t[1]", "Word", "word [01]", "word (2/4,0)", "point = (0,0)", "row 1", "count 2 3", "scene 1", "ford 1/2", "way 3/5", "best 7/5 1", "\t", "\r", "word\r", "\xff", "word \xc3\xa4", strings.Repeat("a", 17), "word #-1", "word #2147483648", "point =" + strings.Repeat("a", 33) + " (0,0)"} {
		wantRun(t, "scene 1\n"+l+"\nrow 1", "error 400\n0\n1\n")
		wantRun(t, "scene 1\n"+l+"\n", "error 400\n")
		wantRun(t, "scene 2\n"+l+"\nword\nrow 1", "error 400\n0\n1\n")
		wantRun(t, "scene 2\nword\n"+l+"\nrow 1", "error 400\n0\n1\n")
		wantRun(t, "scene 3\ntell nobody\nword\n"+l+"\nrow 1", "error 400\n0\n1\n") // none is done, so none is refused by the shop
		wantRun(t, "scene 3\nword\n"+l+"\nword\n\n \nrow 1\n", "error 400\n0\n1\n")
		if l != "" {
			wantRun(t, "scene 1\n"+l, "error 400\n") // without a byte 10 behind it
			wantRun(t, "scene 2\nword\n"+l, "error 400\n")
		}
	}
}

// Of fewer lines than a scene has all are taken, and none is done.
func TestSceneOfTooFewLines(t *testing.T) { // P32.1
	for _, l := range []string{"", "\n", "\n\n", "row 1", "row 1\n", "row 1\nkeep", "keep\nrestore\n", "point =p (0,0)\ntell p", "scene 0\nscene 0\n", "\n\n ", " "} {
		n := strings.Count(l, "\n")
		if l != "" && !strings.HasSuffix(l, "\n") {
			n++
		}
		for _, more := range []int{1, 2, 50, 999999999 - n} {
			wantRun(t, "scene "+itoa(n+more)+"\n"+l, "error 2\n")
			wantRun(t, "row 1\nscene "+itoa(n+more)+"\n"+l, "0\n1\nerror 2\n")
		}
	}
	wantRun(t, "scene 1", "error 2\n")
	wantRun(t, "scene 999999999", "error 2\n")
	wantRun(t, "scene 3\nword\nword", "error 2\n")
	wantRun(t, "scene 2\nword\nword", "2 0\n.\n.\n")
	wantRun(t, "scene 2\nword\nword\n", "2 0\n.\n.\n")
	wantRun(t, "scene 3\nword\nword\n\n", "error 400\n")
	wantRun(t, "scene 3\nword\nword\n ", "error 400\n")
}

// A line that is no scene's takes no lines.
func TestNoScene(t *testing.T) { // P32.1
	for _, l := range []string{"scene", "scene ", "scene x", "scene 01", "scene -1", "scene +1", "scene 1 1", "scene 1000000000", "scene 1/2", "Scene 1", "scene #1", "scene\t1", "scenes 1", "x scene 1"} {
		wantRun(t, l+"\nrow 1", "error 2\n0\n1\n")
	}
}

// What scene does leaves the desk as it is, and knows nothing of it.
func TestSceneApart(t *testing.T) { // P32.1
	wantRun(t, ended(
		"point =p (1,0)", "round =u (0,0) (1,0)", "draw u", "keep",
		"scene 5", "point =p (5,0)", "round =u (0,0) (4,0)", "draw u", "draw u", "tell p",
		"things", "show p", "picture",
		"scene 1", "tell u",
		"restore", "things", "show p", "picture",
		"scene 2", "point =p (7,0)", "tell p",
	), ended(
		"ok", "ok", "1", "ok",
		"5 0", "1", "1", "5",
		"p 1", "u 3", "1", "round 8000000000000000,0000000000000000 3ff0000000000000",
		"0 401",
		"ok", "p 1", "u 3", "1", "round 8000000000000000,0000000000000000 3ff0000000000000",
		"2 0", "7",
	))
	wantRun(t, ended("scene 1", "point =p (1,0)", "scene 1", "tell p", "scene 2", "point =p (2,0)", "tell p"), ended("1 0", "0 401", "2 0", "2"))
	wantRun(t, ended("scene 2", "point =p (1,0)", "tell q", "restore", "things"), ended("1 401", "error 7"))
}

// A scene has as many statements as may be: the bound stands behind what is no line.
func TestLongScene(t *testing.T) { // P32.1
	many := strings.Repeat("word\n", 4096)
	wantRun(t, "scene 4096\n"+many+"row 1\n", "4096 0\n"+strings.Repeat(".\n", 4096)+"0\n1\n")
	wantRun(t, "scene 4097\n"+many+"word\nrow 1\n", "error 3\n0\n1\n")
	wantRun(t, "scene 4097\n"+many+"word", "error 3\n")
	wantRun(t, "scene 4097\n"+many+" word\nrow 1\n", "error 400\n0\n1\n")
	wantRun(t, "scene 4098\nfly #01\n"+many+"word\nrow 1\n", "error 400\n0\n1\n")
	wantRun(t, "scene 4098\n"+many+"word\nrow 1\n", "error 400\n")
	wantRun(t, "scene 4099\n"+many+"word\nrow 1\n", "error 2\n")
}
