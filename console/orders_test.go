package console_test

import (
	"math/big"
	"strconv"
	"strings"
	"testing"
)

// wantAsks asks for the answers of orders behind the stock; of those that are
// refused also that nothing changes.
func wantAsks(t *testing.T, answers map[string]string) {
	t.Helper()
	for order, want := range answers {
		if strings.HasPrefix(want, "error") {
			wantRefused(t, want, order)
		} else {
			wantAsk(t, order, want)
		}
	}
}

func TestThings(t *testing.T) { // P32.1
	wantRun(t, "things", "")
	wantLines(t, "point =b (0,0); things; map =a (1,0) (0,0) (0,0) (1,0); things; tell b; things; point =b (1,0); things", "ok; b 1; ok; b 1; a 2; 0; b 1; a 2; error 401; b 1; a 2")
	wantAsk(t, "things", `zero 1; one 1; i 1; inf 1; q 1; third 1; long 1; tiny 1; most 1; still 2; shift 2; j 2; twice 2; r 2; spiral 2; h 2; para 2; conj 2; six 2; far 2; wide 2;
u 3; v 3; l 3; y 3; s 3; o 4; a 4; b 4; c 4; aout 4; low 4; f 5; n 6; g 7; none 7`)
}

func TestShow(t *testing.T) { // P32.1
	wantAsks(t, map[string]string{
		"show q": "3/2-1/2i", "show inf": "inf", "show zero": "0", "show most": power(8191) + "i", "show j": "map 0 1 1 0", "show conj": "turn 1 0 0 1", "show u": "1 0 -1", "show y": "0 1-1i -2",
		"show o": "-1 0 1", "show low": "0 -1i 2", "show f": "-1 0 1; 2 1 0; 2 -1 0; 3 2i 1", "show n": "0 1; 1i 1+1i", "show g": "0 1 0 1; 1 0 -1 1", "show none": "", "show nobody": "error 401",
	})
}

func TestNear(t *testing.T) { // P32.1
	const none = "0000000000000000"
	wantAsks(t, map[string]string{
		"near zero": none + "," + none, "near one": "3ff0000000000000," + none, "near i": none + ",3ff0000000000000", "near q": "3ff8000000000000,bfe0000000000000", "near third": "bfd5555555555555,3fc2492492492492",
		"near inf": "inf", "near long": "error 6", "near most": "error 6", "near tiny": none + "," + none,
		"near j": "error 411", "near u": "error 411", "near a": "error 411", "near f": "error 411", "near n": "error 411", "near g": "error 411", "near nobody": "error 401",
	})
	// The greatest float, and what is next above it; what is nearest to it still, and what is not.
	top := new(big.Int).Sub(new(big.Int).Lsh(big.NewInt(1), 1024), new(big.Int).Lsh(big.NewInt(1), 971))
	half := new(big.Int).Lsh(big.NewInt(1), 970)
	over := new(big.Int).Add(top, half)
	under := new(big.Int).Sub(over, big.NewInt(1))
	wantLines(t, "point =a ("+top.String()+",0); near a; point =b (0,-"+under.String()+"); near b; point =c ("+over.String()+",0); near c; point =d (0,"+over.String()+"); near d; point =e (1/"+power(1074)+",1/"+power(1075)+"); near e",
		"ok; 7fefffffffffffff,"+none+"; ok; "+none+",ffefffffffffffff; ok; error 6; ok; error 6; ok; 0000000000000001,"+none)
}

func TestKind(t *testing.T) { // P32.1
	wantAsks(t, map[string]string{
		"kind still": "1 1", "kind shift": "2 0", "kind para": "2 0", "kind j": "3 2", "kind r": "3 4", "kind h": "3 3", "kind twice": "4 0", "kind spiral": "5 0", "kind conj": "6 2", "kind six": "6 6", "kind far": "6 0", "kind wide": "4 0",
		"kind zero": "error 411", "kind u": "error 411", "kind a": "error 411", "kind f": "error 411", "kind n": "error 411", "kind g": "error 411", "kind nobody": "error 401",
	})
}

func TestStay(t *testing.T) { // P32.1
	wantAsks(t, map[string]string{
		"stay still": "error 250", "stay conj": "error 250", "stay six": "error 250", "stay far": "error 250", "stay shift": "inf", "stay para": "0", "stay j": "1; -1", "stay twice": "inf; 0", "stay r": "inf; 0", "stay spiral": "inf; 0", "stay h": "error 7", "stay wide": "error 4",
		"stay zero": "error 411", "stay u": "error 411", "stay a": "error 411", "stay f": "error 411", "stay n": "error 411", "stay g": "error 411", "stay nobody": "error 401",
	})
}

func TestCentre(t *testing.T) { // P32.1
	wantAsks(t, map[string]string{
		"centre u": "0 1", "centre v": "2+1i 1/4", "centre l": "inf 1", "centre y": "inf 2", "centre s": "error 4",
		"centre zero": "error 411", "centre j": "error 411", "centre a": "error 411", "centre f": "error 411", "centre n": "error 411", "centre g": "error 411", "centre nobody": "error 401",
	})
}

func TestChord(t *testing.T) { // P32.1
	wantAsks(t, map[string]string{
		"chord zero inf": "4", "chord inf zero": "4", "chord one i": "2", "chord one one": "0", "chord inf inf": "0", "chord i inf": "2", "chord zero one": "2", "chord q zero": "20/7", "chord q inf": "8/7", "chord q one": "2/7", "chord third one": "1586/499",
		"chord long one": "error 4", "chord one long": "error 4", "chord long inf": "error 4", "chord long long": "0", "chord tiny zero": "error 4",
		"chord zero j": "error 411", "chord j zero": "error 411", "chord zero u": "error 411", "chord zero a": "error 411", "chord f zero": "error 411", "chord n n": "error 411", "chord zero g": "error 411",
		"chord zero nobody": "error 401", "chord nobody zero": "error 401", "chord nobody nobody": "error 401", "chord nobody j": "error 401", "chord j nobody": "error 401",
	})
}

func TestTouch(t *testing.T) { // P32.1
	wantAsks(t, map[string]string{
		"touch a b": "yes", "touch b a": "yes", "touch o a": "yes", "touch a o": "yes", "touch o c": "yes", "touch a a": "no", "touch a aout": "no", "touch aout a": "no", "touch b aout": "no", "touch a low": "no", "touch o low": "no", "touch low low": "no", "touch o o": "no",
		"touch a zero": "error 411", "touch zero a": "error 411", "touch a j": "error 411", "touch u a": "error 411", "touch a f": "error 411", "touch n a": "error 411", "touch g a": "error 411",
		"touch a nobody": "error 401", "touch nobody a": "error 401", "touch nobody nobody": "error 401", "touch nobody u": "error 401", "touch u nobody": "error 401",
	})
	wantLines(t, "disk =d (0,0) (1,0); half =h (0,1) (0,-1); half =k (0,-1) (0,3); touch d h; touch h k; touch d k", "ok; ok; ok; yes; yes; no")
	wantLines(t, "half =h (0,1) (0,-1); half =k (0,-1) (0,3); half =m (0,-1) (0,-1); touch h k; touch h m", "ok; ok; ok; yes; no")
}

func TestFord(t *testing.T) { // P32.1
	wantAsks(t, map[string]string{
		"ford 1/2": "8 4+1i 2", "ford 0": "2 1i 0", "ford 1": "2 2+1i 2", "ford -1": "2 -2+1i 2", "ford -3/2": "8 -12+1i 18", "ford 1/3": "18 6+1i 2",
		"ford " + power(4095): "2 " + power(4096) + "+1i " + power(8191), "ford 1/" + power(4095): power(8191) + " " + power(4096) + "+1i 2", "ford " + power(4096): "error 4", "ford 1/" + power(4096): "error 4", "ford -" + less(8192): "error 4", "ford " + power(8192): "error 2",
	})
}

func TestBest(t *testing.T) { // P32.1
	wantAsks(t, map[string]string{
		"best 7/5 1": "1", "best 3/8 2": "1/2", "best 1/4 2": "0", "best -1/2 1": "0", "best 1/2 1": "0", "best 3/2 1": "1", "best 355/113 112": "333/106", "best 355/113 113": "355/113", "best -355/113 100": "-311/99", "best 0 1": "0", "best 1/3 0": "error 2",
		"best 1/100000 99999": "1/99999", "best 1/100000 100000": "1/100000", "best 1/100001 100000": "1/100000", "best 1/3 100001": "error 2", "best 1/3 999999999": "error 2", "best 1/3 1000000000": "error 2", "best " + power(8191) + " 1": power(8191),
	})
}

func TestRow(t *testing.T) { // P32.1
	wantAsks(t, map[string]string{
		"row 0": "", "row 1": "0; 1", "row 2": "0; 1/2; 1", "row 3": "0; 1/3; 1/2; 2/3; 1", "row 5": "0; 1/5; 1/4; 1/3; 2/5; 1/2; 3/5; 2/3; 3/4; 4/5; 1",
		"row 51": "error 3", "row 100000": "error 3", "row 100001": "error 3", "row 999999999": "error 3", "row 1000000000": "error 2",
	})
	l := strings.Split(run(t, "row 50\n"), "\n")
	if len(l) != 776 || l[0] != "0" || l[1] != "1/50" || l[387] != "1/2" || l[774] != "1" || l[775] != "" {
		t.Error(len(l), l[0], l[1], l[387], l[774])
	}
	if n := strings.Count(run(t, "row 49"), "\n"); n != 755 {
		t.Error(n)
	}
}

func TestWay(t *testing.T) { // P32.1
	wantAsks(t, map[string]string{
		"way 1": "1", "way 3/5": "1; 1/2; 2/3; 3/5", "way 5/2": "1; 2; 3; 5/2", "way 1/4": "1; 1/2; 1/3; 1/4", "way 3": "1; 2; 3",
		"way 0": "error 2", "way -1": "error 2", "way -1/2": "error 2", "way -" + power(8191): "error 2", "way -0": "error 2", "way 1/0": "error 2",
	})
	var ints []string
	for k := range 4096 {
		ints = append(ints, strconv.Itoa(k+1))
	}
	for _, x := range []string{"4096", "4097", "5000", power(8000), power(8000) + "/3"} {
		wantRun(t, "way "+x, ended(ints...))
	}
	wantRun(t, "way 4095", ended(ints[:4095]...))
	if n := strings.Count(run(t, "way 1/"+power(8191)), "\n"); n != 4096 {
		t.Error(n)
	}
}

func TestCount(t *testing.T) { // P32.1
	wantAsks(t, map[string]string{
		"count 2 3": "36", "count 1 0": "1", "count 64 0": "1", "count 1 1": "2", "count 1 999999999": "2", "count 64 1": "128", "count 64 2": "16256", "count 2 1": "4", "count 2 2": "12", "count 2 40": "16210220612075905068", "count 3 27": "8940696716308593750", "count 3 28": "error 4",
		"count 2 41": "error 4", "count 2 999999999": "error 4", "count 64 9": "8662429982850416768", "count 64 10": "error 4", "count 0 0": "error 2", "count 0 1": "error 2", "count 65 0": "error 2", "count 65 1": "error 2", "count 999999999 999999999": "error 2", "count 1000000000 1": "error 2", "count 1 1000000000": "error 2",
	})
}

func TestPicture(t *testing.T) { // P32.1
	const none, one, two, less = "0000000000000000", "3ff0000000000000", "4000000000000000", "bff0000000000000"
	wantRun(t, "picture", "")
	wantRun(t, "box", "error 7\n")
	wantAsk(t, "picture", "")
	wantAsk(t, "box", "error 7")
	wantLines(t, "line =l (1,0) (0,0); draw l; picture; box", "ok; 0; error 7")
	wantLines(t, "net =n #1 #1 (1,0) (-1,0) (0,0) (1,0) (0,1); draw n; picture; box", "ok; 4; straight "+none+","+none+" "+one+","+none+"; straight "+none+","+none+" "+none+","+one+"; straight "+one+","+none+" "+one+","+one+
		"; straight "+none+","+one+" "+one+","+one+"; "+none+","+none+"; "+one+","+one)
	wantLines(t, "round =c (1,0) (1,0); draw c; draw c; picture; box", "ok; 1; 1; round "+one+","+none+" "+one+"; round "+one+","+none+" "+one+"; "+none+","+less+"; "+two+","+one)
}

// A picture of as many arcs as may be is told, and its box.
func TestFullPicture(t *testing.T) { // P32.1
	text := ended("round =c (1,0) (1,0)") + strings.Repeat("draw c\n", 4096) + "picture\nbox\ndraw c\npicture\n"
	arc := "round 3ff0000000000000,0000000000000000 3ff0000000000000\n"
	want := "ok\n" + strings.Repeat("1\n", 4096) + strings.Repeat(arc, 4096) + "0000000000000000,bff0000000000000\n4000000000000000,3ff0000000000000\nerror 3\n" + strings.Repeat(arc, 4096)
	wantRun(t, text, want)
}
