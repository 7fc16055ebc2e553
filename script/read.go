package script

import (
	"strconv"
	"strings"

	"tracery/api"
	"tracery/frac"
)

// Read reads a statement from its line.
func Read(line string) (s api.Stmt, e api.Errno) {
	defer func() {
		if x := recover(); x == api.ErrLine {
			e = api.ErrLine
		} else if x != nil {
			panic(x) // nothing that was given up: it would hide a fault of ours
		}
	}()
	return statement(line), api.OK
}

// must gives up what can't be read, however deep inside; Read takes that up.
func must(ok bool) {
	if !ok {
		panic(api.ErrLine)
	}
}

func statement(line string) api.Stmt {
	rest, more := line, true
	take := func() string {
		var text string
		text, rest, more = strings.Cut(rest, blank)
		return text
	}
	s := api.Stmt{Verb: take()}
	must(isVerb(s.Verb))
	if strings.HasPrefix(rest, nameSign) {
		s.Name = strings.TrimPrefix(take(), nameSign)
		must(isName(s.Name))
	}
	for more {
		must(len(s.Args) < mostArgs)
		s.Args = append(s.Args, argument(take()))
	}
	return s
}

func argument(text string) api.Arg {
	if text == infinity {
		return api.Arg{Kind: api.ArgInf}
	}
	if inner, ok := strings.CutPrefix(text, numberOpen); ok {
		return api.Arg{Kind: api.ArgNumber, Z: number(inner)}
	}
	if inner, ok := strings.CutPrefix(text, wordOpen); ok {
		return api.Arg{Kind: api.ArgWord, Word: word(inner)}
	}
	if inner, ok := strings.CutPrefix(text, countSign); ok {
		return api.Arg{Kind: api.ArgCount, Count: count(inner)}
	}
	must(isName(text))
	return api.Arg{Kind: api.ArgName, Name: text}
}

// number reads what stands behind the bracket that opens.
func number(s string) api.Gauss {
	re, rest := fraction(s)
	im, rest := fraction(behind(rest, numberMid))
	must(rest == numberClose)
	return api.Gauss{Re: re, Im: im}
}

// word reads what stands behind the bracket that opens.
func word(s string) []int {
	var w []int
	if s == wordClose {
		return w
	}
	for {
		k, rest := small(s)
		must(isLetter(k) && len(w) < api.MaxList)
		w = append(w, k)
		if rest == wordClose {
			return w
		}
		s = behind(rest, wordMid)
	}
}

func count(s string) int {
	n, rest := small(s)
	must(rest == "" && isCount(n))
	return n
}

func fraction(s string) (x api.Frac, rest string) {
	text, rest := numeral(s)
	x, e := frac.Read(text)
	must(e == api.OK)
	return x, rest
}

func small(s string) (n int, rest string) {
	text, rest := numeral(s)
	n, err := strconv.Atoi(text)
	must(err == nil)
	return n, rest
}

func behind(s, mark string) string {
	rest, ok := strings.CutPrefix(s, mark)
	must(ok)
	return rest
}

// numeral parts s behind the number with which it begins: digits without a nought
// ahead, with a sign ahead and others to divide by behind, where such stand.
func numeral(s string) (text, rest string) {
	at, divided := 0, false
	next := func(low, high byte) bool { return at < len(s) && s[at] >= low && s[at] <= high }
	if next('-', '-') {
		at++
		goto first // a nought has no sign
	}
	if next('0', '0') {
		at++
		goto end
	}
first:
	must(next('1', '9'))
digits:
	at++
	if next('0', '9') {
		goto digits
	}
	if next('/', '/') && !divided {
		at++
		divided = true
		goto first
	}
end:
	return s[:at], s[at:]
}
