package shop

import (
	"strings"

	"tracery/api"
)

// verb is what a verb does. It makes, or it asks: one of both functions is there.
type verb struct {
	takes func(args []api.Arg) string // letters of what stands at each place: see wanted
	makes func(t task) thing
	asks  func(t task) []string
}

// order is the verbs as the chapter's tables have them.
const order = "point fourth bring home map turn send over then back circle round line mix disk half member four swap knife net flip mirrors image " +
	"tell ratio on lies meet far order pack quotients word grow draw"

func verbs() map[string]verb {
	return map[string]verb{
		"point":   {takes: just("P"), makes: task.point},
		"fourth":  {takes: just("PPPP"), makes: task.fourth},
		"bring":   {takes: just("GP#"), makes: task.bring},
		"home":    {takes: just("P"), makes: task.home},
		"map":     {takes: just("aaaa"), makes: task.plainMap},
		"turn":    {takes: just("aaaa"), makes: task.turningMap},
		"send":    {takes: just("PPPPPP"), makes: task.send},
		"over":    {takes: just("C"), makes: task.over},
		"then":    {takes: many("", "M"), makes: task.then},
		"back":    {takes: just("M"), makes: task.back},
		"circle":  {takes: just("PPP"), makes: task.circle},
		"round":   {takes: just("af"), makes: task.round},
		"line":    {takes: just("aa"), makes: task.line},
		"mix":     {takes: just("CCff"), makes: task.mix},
		"disk":    {takes: just("af"), makes: task.disk},
		"half":    {takes: just("aa"), makes: task.half},
		"member":  {takes: just("F#"), makes: task.member},
		"four":    {takes: just("DDDD"), makes: task.four},
		"swap":    {takes: just("F#"), makes: task.swap},
		"knife":   {takes: just("f"), makes: task.knife},
		"net":     {takes: netSides, makes: task.net},
		"flip":    {takes: just("NaP"), makes: task.flip},
		"mirrors": {takes: many("", "CS"), makes: task.mirrors},
		"image":   {takes: just("MI"), makes: task.image},

		"tell":      {takes: just("X"), asks: task.tell},
		"ratio":     {takes: just("PPPP"), asks: task.ratio},
		"on":        {takes: just("CP"), asks: task.on},
		"lies":      {takes: just("CC"), asks: task.lies},
		"meet":      {takes: just("CC"), asks: task.meet},
		"far":       {takes: just("#PP"), asks: task.far},
		"order":     {takes: just("M"), asks: task.order},
		"pack":      {takes: just("F#"), asks: task.pack},
		"quotients": {takes: just("a"), asks: task.quotients},
		"word":      {takes: many("", "W"), asks: task.word},
		"grow":      {takes: many("#", "M"), asks: task.grow},
		"draw":      {takes: just("X"), asks: task.draw},
	}
}

// just is of a verb that takes the same whatever is handed to it.
func just(letters string) func([]api.Arg) string {
	return func([]api.Arg) string { return letters }
}

// many is of a verb that takes, behind what is first, as many as are there.
func many(first, each string) func([]api.Arg) string {
	return func(args []api.Arg) string {
		return first + strings.Repeat(each, max(0, len(args)-len(first))/len(each))
	}
}

// netSides is of net, whose first two arguments say how many it takes.
func netSides(args []api.Arg) string {
	const counts = "##"
	if len(args) < len(counts) {
		return counts
	}
	// More than there are arguments are too many, however many they are.
	w, h := min(args[0].Count, len(args)), min(args[1].Count, len(args))
	return counts + strings.Repeat("a", w+h) + strings.Repeat("P", w+1+h)
}
