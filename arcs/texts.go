package arcs

import (
	"strings"

	"tracery/api"
	"tracery/cplx"
)

const (
	straightWord = "straight"
	roundWord    = "round"
	bowWord      = "bow"
	leftWord     = "left"
	rightWord    = "right"

	blank   = " "
	comma   = ","
	lineEnd = "\n"
)

// Text tells a picture's text.
func Text(l ...api.Arc) (string, api.Errno) {
	if e := checked(l); e != api.OK {
		return "", e
	}
	var out strings.Builder
	for _, a := range l {
		out.WriteString(line(a))
	}
	return out.String(), api.OK
}

// Read tells the arcs of which s is the text.
func Read(s string) ([]api.Arc, api.Errno) {
	if len(s) > api.MaxPicture || lines(s) > api.MaxList {
		return nil, api.ErrLong
	}
	l := []api.Arc{}
	for text := range strings.Lines(s) {
		a := meant(strings.Split(strings.TrimSuffix(text, lineEnd), blank))
		// What was read amiss, or wants its end, does not come out again.
		if Check(a) != api.OK || line(a) != text {
			return nil, api.ErrArc
		}
		l = append(l, a)
	}
	return l, api.OK
}

// lines counts what stands behind the last line's end, too.
func lines(s string) int {
	n := strings.Count(s, lineEnd)
	if s != "" && !strings.HasSuffix(s, lineEnd) {
		n++
	}
	return n
}

// line is the text of an arc that may be, with its end.
func line(a api.Arc) string {
	var words []string
	switch a.Kind {
	case api.ArcStraight:
		words = []string{straightWord, cplx.Text(a.From), cplx.Text(a.To)}
	case api.ArcRound:
		words = []string{roundWord, cplx.Text(a.Centre), digits(a.Radius)}
	case api.ArcBow:
		words = []string{bowWord, cplx.Text(a.From), cplx.Text(a.To), cplx.Text(a.Centre), digits(a.Radius), side(a.Left)}
	}
	return strings.Join(words, blank) + lineEnd
}

// meant is the arc whose text has these words, if there is one; else some other
// one, or one that may not be.
func meant(words []string) api.Arc {
	switch n := len(words); {
	case n == 3 && words[0] == straightWord:
		return api.Arc{Kind: api.ArcStraight, From: number(words[1]), To: number(words[2])}
	case n == 3 && words[0] == roundWord:
		return api.Arc{Kind: api.ArcRound, Centre: number(words[1]), Radius: radius(words[2])}
	case n == 6 && words[0] == bowWord:
		return api.Arc{
			Kind: api.ArcBow, From: number(words[1]), To: number(words[2]),
			Centre: number(words[3]), Radius: radius(words[4]), Left: words[5] == leftWord,
		}
	}
	return api.Arc{}
}

// number is 0 of what is no number's text.
func number(s string) complex128 {
	z, _ := cplx.Read(s)
	return z
}

// radius and digits go by a complex number's text, which is that of its parts.

func radius(s string) float64 { return real(number(s + comma + s)) }

func digits(x float64) string {
	s, _, _ := strings.Cut(cplx.Text(cplx.Of(x, 0)), comma)
	return s
}

func side(left bool) string {
	if left {
		return leftWord
	}
	return rightWord
}
