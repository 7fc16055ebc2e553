package shop

import (
	"tracery/api"
	"tracery/gauss"
	"tracery/nets"
	"tracery/script"
	"tracery/sphere"
)

// What stands at a place of a verb's arguments, by the letters of the chapter's
// tables, and two more.
const (
	wantsNumber = 'a'
	wantsReal   = 'f'
	wantsCount  = '#'
	wantsSide   = 'S' // a count of 0 or 1
	wantsWord   = 'W'
	wantsPoint  = 'P'
	wantsAny    = 'X'
	wantsImaged = 'I' // the name of a thing of which there are images
)

// kinds are the letters of the kinds of things, from the first kind on.
const kinds = "PMCDFNG"

// task is a statement whose arguments are as its verb wants them, all things that
// they name being there.
type task struct {
	shop *Shop
	args []api.Arg
}

// do does a statement, in the order in which it may be refused.
func (s *Shop) do(x api.Stmt) []string {
	must(s.there(), api.ErrNil)
	check(script.Check(x))
	v, is := verbs()[x.Verb]
	must(is && (v.makes != nil) == (x.Name != ""), api.ErrVerb)
	letters := v.takes(x.Args)
	must(fit(letters, x.Args), api.ErrVerb)
	s.checkNames(x)
	s.checkKinds(letters, x.Args)
	t := task{shop: s, args: x.Args}
	if v.makes == nil {
		return v.asks(t)
	}
	must(len(s.names) < api.MaxThings, api.ErrLong)
	made := v.makes(t)
	s.names = append(s.names, x.Name)
	s.things[x.Name] = made
	return nil
}

func fit(letters string, args []api.Arg) bool {
	if len(letters) != len(args) {
		return false
	}
	for k, a := range args {
		if !fits(letters[k], a) {
			return false
		}
	}
	return true
}

func fits(letter byte, a api.Arg) bool {
	switch letter {
	case wantsNumber:
		return a.Kind == api.ArgNumber
	case wantsReal:
		return a.Kind == api.ArgNumber && gauss.Real(a.Z)
	case wantsCount:
		return a.Kind == api.ArgCount
	case wantsSide:
		return a.Kind == api.ArgCount && a.Count <= 1
	case wantsWord:
		return a.Kind == api.ArgWord
	case wantsPoint:
		return a.Kind == api.ArgNumber || a.Kind == api.ArgInf || a.Kind == api.ArgName
	}
	return a.Kind == api.ArgName
}

// checkNames wants the statement's name free, and all others to stand.
func (s *Shop) checkNames(x api.Stmt) {
	_, stands := s.things[x.Name]
	must(!stands, api.ErrName)
	for _, a := range x.Args {
		if a.Kind == api.ArgName {
			s.standing(a.Name)
		}
	}
}

func (s *Shop) checkKinds(letters string, args []api.Arg) {
	for k, a := range args {
		if a.Kind == api.ArgName {
			must(goes(s.things[a.Name].kind(), letters[k]), api.ErrKind)
		}
	}
}

// goes tells whether a thing of a kind may stand where the letter does.
func goes(kind api.ThingKind, letter byte) bool {
	switch letter {
	case wantsAny:
		return true
	case wantsImaged:
		return kind != api.ThingMap && kind != api.ThingMirrors
	}
	return kinds[kind-1] == letter
}

func (t task) number(k int) api.Gauss { return t.args[k].Z }

func (t task) real(k int) api.Frac { return t.args[k].Z.Re }

func (t task) count(k int) int { return t.args[k].Count }

func (t task) thing(k int) thing { return t.shop.things[t.args[k].Name] }

func (t task) pointAt(k int) api.Point {
	switch a := t.args[k]; a.Kind {
	case api.ArgNumber:
		return got(sphere.Of(a.Z))
	case api.ArgInf:
		return sphere.Infinity()
	}
	return api.Point(t.thing(k).(point))
}

func (t task) mapAt(k int) api.Mob { return api.Mob(t.thing(k).(mapping)) }

func (t task) circleAt(k int) api.Circle { return api.Circle(t.thing(k).(circle)) }

func (t task) diskAt(k int) api.Disk { return api.Disk(t.thing(k).(disk)) }

func (t task) fourAt(k int) [4]api.Disk { return t.thing(k).(four) }

func (t task) netAt(k int) *nets.Net { return t.thing(k).(net).Net }

// from are what the arguments from a place on up to another one tell.
func from[T any](first, end int, told func(k int) T) []T {
	l := make([]T, 0, end-first)
	for k := first; k < end; k++ {
		l = append(l, told(k))
	}
	return l
}
