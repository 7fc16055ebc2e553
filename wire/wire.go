// Package wire is layer 1: numbers, floats, texts, lists and exact complex
// numbers as bytes, in one form each, and these read again.
package wire

import "tracery/api"

// Of all NaNs one stands for all, so that a float has one form.
const nanBits = 0x7FF8000000000000

func plainWhole(w api.Whole) bool {
	if w.Mag == "" {
		return !w.Neg
	}
	return len(w.Mag) <= api.MaxWide && w.Mag[0] != 0
}

func plainFrac(x api.Frac) bool {
	return plainPart(x.Num) && plainPart(x.Den) && !x.Den.Neg && x.Den.Mag != ""
}

func plainPart(w api.Whole) bool {
	return plainWhole(w) && len(w.Mag) <= api.MaxWhole
}
