package words

import (
	"strconv"
	"strings"

	"tracery/api"
)

const (
	empty = "." // the empty word's text
	blank = " " // stands between two letters
)

// Text answers a word's text.
func Text(w ...int) (string, api.Errno) {
	if e := checked(w); e != api.OK {
		return "", e
	}
	if len(w) == 0 {
		return empty, api.OK
	}
	texts := make([]string, len(w))
	for i, k := range w {
		texts[i] = strconv.Itoa(k)
	}
	return strings.Join(texts, blank), api.OK
}

// Read answers the word of which s is the text.
func Read(s string) ([]int, api.Errno) {
	w := []int{}
	if s == empty {
		return w, api.OK
	}
	for more := true; more; {
		var text string
		text, s, more = strings.Cut(s, blank)
		k, ok := letter(text)
		if !ok || len(w) == api.MaxList {
			return nil, api.ErrWord
		}
		w = append(w, k)
	}
	return w[:len(w):len(w)], api.OK
}

// letter reads a letter in its one form: a + or a nought ahead would not come
// out again.
func letter(s string) (int, bool) {
	k, err := strconv.Atoi(s)
	if err != nil || noLetter(k) || strconv.Itoa(k) != s {
		return 0, false
	}
	return k, true
}
