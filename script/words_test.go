package script_test

import (
	"fmt"
	"math"
	"math/big"
	"regexp"
	"slices"
	"strconv"
	"strings"

	"tracery/api"
)

// The chapter's words, by other means than the program's: patterns and math/big.

var (
	verbForm   = regexp.MustCompile(`\A[a-z]{1,16}\z`)
	nameForm   = regexp.MustCompile(`\A[a-z][a-z0-9-]{0,31}\z`)
	countForm  = regexp.MustCompile(`\A#(0|[1-9][0-9]*)\z`)
	wordForm   = regexp.MustCompile(`\A\[(-?[1-9][0-9]*(\.-?[1-9][0-9]*)*)?\]\z`)
	numberForm = regexp.MustCompile(`\A\((0|-?[1-9][0-9]*)(/[1-9][0-9]*)?,(0|-?[1-9][0-9]*)(/[1-9][0-9]*)?\)\z`)
)

func bigOf(w api.Whole) *big.Int {
	n := new(big.Int).SetBytes([]byte(w.Mag))
	if w.Neg {
		n.Neg(n)
	}
	return n
}

func mayFracOf(x api.Frac) bool {
	if len(x.Num.Mag) > api.MaxWhole || len(x.Den.Mag) > api.MaxWhole {
		return false
	}
	num, den := bigOf(x.Num), bigOf(x.Den)
	return of(num) == x.Num && of(den) == x.Den && den.Sign() > 0 && new(big.Int).GCD(nil, nil, new(big.Int).Abs(num), den).Cmp(big.NewInt(1)) == 0
}

func mayArgOf(a api.Arg) bool {
	want := api.Arg{Kind: a.Kind}
	switch a.Kind {
	case api.ArgName:
		want.Name = a.Name
	case api.ArgNumber:
		want.Z = a.Z
	case api.ArgWord:
		want.Word = a.Word
	case api.ArgCount:
		want.Count = a.Count
	}
	for _, k := range want.Word {
		if k == 0 || k < -4096 || k > 4096 {
			return false
		}
	}
	if a.Kind == api.ArgName && !nameForm.MatchString(a.Name) {
		return false
	}
	if a.Kind == api.ArgNumber && (!mayFracOf(a.Z.Re) || !mayFracOf(a.Z.Im)) {
		return false
	}
	return a.Kind >= 1 && a.Kind <= 5 && len(want.Word) <= api.MaxList && want.Count >= 0 && want.Count <= math.MaxInt32 && sameArgOf(a, want)
}

func mayOf(s api.Stmt) bool {
	if !verbForm.MatchString(s.Verb) || s.Name != "" && !nameForm.MatchString(s.Name) || len(s.Args) > 64 {
		return false
	}
	for _, a := range s.Args {
		if !mayArgOf(a) {
			return false
		}
	}
	return true
}

func sameArgOf(a, b api.Arg) bool {
	if len(a.Word) != len(b.Word) {
		return false
	}
	for i := range a.Word {
		if a.Word[i] != b.Word[i] {
			return false
		}
	}
	return a.Kind == b.Kind && a.Name == b.Name && a.Z == b.Z && a.Count == b.Count
}

func sameOf(a, b api.Stmt) bool {
	if a.Verb != b.Verb || a.Name != b.Name || len(a.Args) != len(b.Args) {
		return false
	}
	for i := range a.Args {
		if !sameArgOf(a.Args[i], b.Args[i]) {
			return false
		}
	}
	return true
}

func fracTextOf(x api.Frac) string {
	if den := bigOf(x.Den); den.Cmp(big.NewInt(1)) != 0 {
		return bigOf(x.Num).String() + "/" + den.String()
	}
	return bigOf(x.Num).String()
}

// lineOf is the line of a statement that may be.
func lineOf(s api.Stmt) string {
	out := s.Verb
	if s.Name != "" {
		out += " =" + s.Name
	}
	for _, a := range s.Args {
		switch a.Kind {
		case api.ArgName:
			out += " " + a.Name
		case api.ArgNumber:
			out += " (" + fracTextOf(a.Z.Re) + "," + fracTextOf(a.Z.Im) + ")"
		case api.ArgInf:
			out += " (inf)"
		case api.ArgWord:
			out += " " + strings.ReplaceAll(fmt.Sprint(a.Word), " ", ".")
		case api.ArgCount:
			out += fmt.Sprint(" #", a.Count)
		}
	}
	return out
}

func textOf(l ...api.Stmt) string {
	var out strings.Builder
	for _, s := range l {
		out.WriteString(lineOf(s))
		out.WriteByte(10)
	}
	return out.String()
}

func fracOf(num, den string) api.Frac {
	if len(num) > 5000 || len(den) > 5000 {
		return api.Frac{} // 1024 bytes have at most 2467 digits
	}
	n, _ := new(big.Int).SetString(num, 10)
	d := big.NewInt(1)
	if den != "" {
		d, _ = d.SetString(den[1:], 10)
		if d.Cmp(big.NewInt(1)) == 0 {
			return api.Frac{} // over 1 is another one's text
		}
	}
	return api.Frac{Num: of(n), Den: of(d)}
}

func argOf(text string) api.Arg {
	switch {
	case text == "(inf)":
		return inf()
	case nameForm.MatchString(text):
		return named(text)
	case countForm.MatchString(text):
		if n, err := strconv.ParseInt(text[1:], 10, 32); err == nil {
			return count(int(n))
		}
	case wordForm.MatchString(text):
		var w []int
		for _, s := range strings.FieldsFunc(text[1:len(text)-1], func(r rune) bool { return r == '.' }) {
			k, err := strconv.ParseInt(s, 10, 32)
			if err != nil {
				return api.Arg{}
			}
			w = append(w, int(k))
		}
		return word(w...)
	default:
		if l := numberForm.FindStringSubmatch(text); l != nil {
			return number(fracOf(l[1], l[2]), fracOf(l[3], l[4]))
		}
	}
	return api.Arg{}
}

func readOf(line string) (api.Stmt, api.Errno) {
	l := strings.Split(line, " ")
	s := api.Stmt{Verb: l[0]}
	l = l[1:]
	if len(l) > 0 && strings.HasPrefix(l[0], "=") {
		s.Name = l[0][1:]
		l = l[1:]
		if s.Name == "" {
			return api.Stmt{}, api.ErrLine
		}
	}
	if len(l) > 64 {
		return api.Stmt{}, api.ErrLine
	}
	for _, text := range l {
		s.Args = append(s.Args, argOf(text))
	}
	if !mayOf(s) {
		return api.Stmt{}, api.ErrLine
	}
	return s, api.OK
}

// headOf are the statements with which a text begins, and whether that is all.
func headOf(text string) (l []api.Stmt, all bool) {
	for text != "" {
		at := strings.IndexByte(text, 10)
		if at < 0 {
			return l, false
		}
		s, e := readOf(text[:at])
		if e != api.OK {
			return l, false
		}
		l, text = append(l, s), text[at+1:]
	}
	return l, true
}

func parseOf(text string) ([]api.Stmt, int, api.Errno) {
	if len(text) > 1<<20 {
		return nil, 0, api.ErrLong
	}
	l, all := headOf(text)
	if !all {
		return nil, len(l), api.ErrLine
	}
	if len(l) > 4096 {
		return nil, 0, api.ErrLong
	}
	return l, len(l), api.OK
}

// checkedOf is what Text and Order ask ahead of all else.
func checkedOf(scene []api.Stmt) (int, api.Errno) {
	if len(scene) > 4096 {
		return 0, api.ErrLong
	}
	for i, s := range scene {
		if !mayOf(s) {
			return i, api.ErrArg
		}
	}
	return len(scene), api.OK
}

// placeOf is where a name stands among these, or -1.
func placeOf(scene []api.Stmt, name string) int {
	return slices.IndexFunc(scene, func(s api.Stmt) bool { return s.Name != "" && s.Name == name })
}

func orderOf(scene []api.Stmt) (int, api.Errno) {
	if n, e := checkedOf(scene); e != api.OK {
		return n, e
	}
	for i, s := range scene {
		if placeOf(scene[:i], s.Name) >= 0 {
			return i, api.ErrName
		}
		for _, a := range s.Args {
			if a.Kind == api.ArgName && placeOf(scene[:i], a.Name) < 0 {
				return i, api.ErrName
			}
		}
	}
	return len(scene), api.OK
}

func needsOf(scene []api.Stmt, name string) ([]int, api.Errno) {
	if _, e := orderOf(scene); e != api.OK {
		return nil, e
	}
	if placeOf(scene, name) < 0 {
		return nil, api.ErrName
	}
	met := map[int]bool{}
	var meet func(at int)
	meet = func(at int) {
		if met[at] {
			return
		}
		met[at] = true
		for _, a := range scene[at].Args {
			if a.Kind == api.ArgName {
				meet(placeOf(scene, a.Name))
			}
		}
	}
	meet(placeOf(scene, name))
	var l []int
	for i := range scene {
		if met[i] {
			l = append(l, i)
		}
	}
	return l, api.OK
}
