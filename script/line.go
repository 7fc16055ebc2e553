package script

import (
	"strconv"
	"strings"

	"tracery/api"
	"tracery/frac"
)

const (
	blank       = " "
	nameSign    = "="
	infinity    = "(inf)"
	numberOpen  = "("
	numberMid   = ","
	numberClose = ")"
	wordOpen    = "["
	wordMid     = "."
	wordClose   = "]"
	countSign   = "#"
)

// Line writes a statement.
func Line(s api.Stmt) (string, api.Errno) {
	if e := Check(s); e != api.OK {
		return "", e
	}
	return line(s), api.OK
}

// line wants a statement that may be.
func line(s api.Stmt) string {
	texts := []string{s.Verb}
	if s.Name != "" {
		texts = append(texts, nameSign+s.Name)
	}
	for _, a := range s.Args {
		texts = append(texts, argText(a))
	}
	return strings.Join(texts, blank)
}

func argText(a api.Arg) string {
	switch a.Kind {
	case api.ArgNumber:
		return numberOpen + fracText(a.Z.Re) + numberMid + fracText(a.Z.Im) + numberClose
	case api.ArgInf:
		return infinity
	case api.ArgWord:
		return wordOpen + lettersText(a.Word) + wordClose
	case api.ArgCount:
		return countSign + strconv.Itoa(a.Count)
	}
	return a.Name
}

func fracText(x api.Frac) string {
	s, _ := frac.Text(x)
	return s
}

func lettersText(w []int) string {
	texts := make([]string, len(w))
	for i, k := range w {
		texts[i] = strconv.Itoa(k)
	}
	return strings.Join(texts, wordMid)
}
