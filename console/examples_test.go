package console_test

import "testing"

// The table 'Examples' of the chapter, row by row.
func TestExamples(t *testing.T) { // P32.1
	for _, r := range [][2]string{
		{"point =p (1,2); near p; show p; things; kind p; fly", "ok; 3ff0000000000000,4000000000000000; 1+2i; p 1; error 411; error 2"},
		{"map =m (0,0) (1,0) (1,0) (0,0); kind m; stay m; chord m m; near q", "ok; 3 2; 1; -1; error 411; error 401"},
		{"circle =c (1,0) (0,1) (-1,0); centre c; draw c; box", "ok; 0 1; 1; bff0000000000000,bff0000000000000; 3ff0000000000000,3ff0000000000000"},
		{"ford 1/2; best 7/5 1; row 3; way 3/5; count 2 3; row 51", "8 4+1i 2; 1; 0; 1/3; 1/2; 2/3; 1; 1; 1/2; 2/3; 3/5; 36; error 3"},
		{"keep; point =p (1,0); restore; show p; scene 2; point =q (0,0); tell q", "ok; ok; ok; error 401; 2 0; 0"},
	} {
		wantLines(t, r[0], r[1])
	}
}

// The answers of DOC.md's ten examples of the whole that orders can ask for.
func TestExamplesOfTheWhole(t *testing.T) { // P32.1
	for _, r := range [][2]string{
		{"map =m (0,0) (1,0) (1,0) (0,0); point =p (0,2); image =a m p; show a; circle =c (1,0) (0,1) (-1,0); image =b m c; show b; round =d (1/2,0) (1/4,0); image =e m d; show e", "ok; ok; ok; -1/2i; ok; ok; 1 0 -1; ok; ok; 0 1 -2"},
		{"ratio (0,0) (1,0) (1,1) (0,1); ratio (0,0) (1,0) (2,0) (3,0); send =m (0,0) (1,0) (2,0) (1,0) (2,0) (inf); show m", "-1; -1/3; ok; map 0 -2 1 -2"},
		{"map =a (0,1) (0,0) (0,0) (1,0); kind a; map =b (0,0) (-1,0) (1,0) (1,0); kind b; map =c (1,0) (1,0) (0,0) (1,0); kind c", "ok; 3 4; ok; 3 3; ok; 2 0"},
		{"home =a (3/5,4/5); show a; home =b (7,1); show b; home =c (0,1/2); show c", "ok; -1/2+1i; ok; 1i; ok; 2i"},
		{"disk =o (0,0) (-1,0); disk =a (1/2,0) (1/2,0); disk =b (-1/2,0) (1/2,0); disk =c (0,2/3) (1/3,0); touch o a; touch b c; four =f o a b c; swap =g f #0; show g; pack f #1", "ok; ok; ok; ok; yes; yes; ok; ok; 15 4i 1; 2 1 0; 2 -1 0; 3 2i 1; -1; 2; 2; 3; 15; 6; 6; 3"},
		{"knife =k (1/2,0); member =m k #1; show m", "ok; ok; 6 3+2i 2"},
		{"net =n #2 #2 (1,0) (1,0) (-1,0) (-1,0) (0,0) (1,0) (2,0) (0,1) (0,2); show n", "ok; 0 1 2; 1i 1+1i 2+1i; 2i 1+2i 2+2i"},
		{"ford 1/2; ford 1/3", "8 4+1i 2; 18 6+1i 2"},
		{"far #1 (0,1) (0,2); far #2 (0,0) (1/3,0)", "5/4; 5/4"},
	} {
		wantLines(t, r[0], r[1])
	}
}
