package script

import (
	"iter"
	"strings"

	"tracery/api"
)

const lineEnd = "\n"

// Text writes a scene.
func Text(scene ...api.Stmt) (string, int, api.Errno) {
	n, e := checked(scene)
	if e != api.OK {
		return "", n, e
	}
	var out strings.Builder
	for _, s := range scene {
		out.WriteString(line(s))
		out.WriteString(lineEnd)
	}
	return out.String(), n, api.OK
}

// Parse reads a scene from its text.
func Parse(text string) ([]api.Stmt, int, api.Errno) {
	if len(text) > api.MaxConsole {
		return nil, 0, api.ErrLong
	}
	var scene []api.Stmt
	n := 0
	for _, s := range All(text) {
		if n < api.MaxList { // a line that is none may yet stand behind too many
			scene = append(scene, s)
		}
		n++
	}
	switch {
	case n < lines(text):
		return nil, n, api.ErrLine
	case n > api.MaxList:
		return nil, 0, api.ErrLong
	}
	return scene, n, api.OK
}

// All goes over a text's statements.
func All(text string) iter.Seq2[int, api.Stmt] {
	return func(yield func(int, api.Stmt) bool) {
		n := 0
		for whole := range strings.Lines(text) {
			line, ended := strings.CutSuffix(whole, lineEnd)
			if !ended {
				return
			}
			s, e := Read(line)
			if e != api.OK || !yield(n, s) {
				return
			}
			n++
		}
	}
}

// lines counts what stands behind the last line's end, too.
func lines(text string) int {
	n := strings.Count(text, lineEnd)
	if text != "" && !strings.HasSuffix(text, lineEnd) {
		n++
	}
	return n
}

// checked tells how many statements there are, or beside an error its place.
func checked(scene []api.Stmt) (int, api.Errno) {
	if len(scene) > api.MaxList {
		return 0, api.ErrLong
	}
	for i, s := range scene {
		if e := Check(s); e != api.OK {
			return i, e
		}
	}
	return len(scene), api.OK
}
