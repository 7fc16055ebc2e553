package shop_test

import (
	"slices"
	"testing"

	"tracery/api"
	"tracery/shop"
)

// The table 'Examples' of the chapter, row by row.
func TestExamples(t *testing.T) { // P31.1, P31.2
	for _, x := range []struct {
		scene string
		want  []string
	}{
		{"point =p (1,2); tell p", []string{"1+2i"}},
		{"circle =c (1,0) (0,1) (-1,0); tell c; on c (0,-1); draw c", []string{"1 0 -1", "yes", "1"}},
		{"round =a (0,0) (1,0); round =b (2,0) (1,0); lies a b; meet a b", []string{"touching", "1"}},
		{"disk =o (0,0) (-1,0); tell o", []string{"-1 0 1"}},
		{"knife =k (1/2,0); member =m k #1; tell m", []string{"6 3+2i 2"}},
		{"far #1 (0,1) (0,2); ratio (0,0) (1,0) (2,0) (3,0); quotients (7/3,0)", []string{"5/4", "-1/3", "2", "3"}},
	} {
		scene := sceneOf(t, x.scene)
		if l, n, e := shop.New().Run(scene...); !slices.Equal(l, x.want) || n != len(scene) || e != api.OK {
			t.Errorf("%s: %q, %d, %v", x.scene, l, n, e)
		}
	}
	wantError(t, shop.New(), "tell x", api.ErrName)
	for _, line := range []string{"fly", "tell", "point p"} {
		wantError(t, shop.New(), line, api.ErrVerb)
	}
	s := shopOf(t, "point =p (1,0)")
	wantError(t, s, "point =p (2,0)", api.ErrName)
	wantText(t, s, "p", "1")
	wantError(t, shopOf(t, "circle =c (1,0) (0,1) (-1,0)"), "order c", api.ErrKind)
}

// DOC.md's examples of the whole, as far as a shop tells them.
func TestExamplesOfTheWhole(t *testing.T) { // P31.1
	for _, x := range []struct {
		scene string
		want  []string
	}{
		{"map =j (0,0) (1,0) (1,0) (0,0); point =a (0,2); image =b j a; tell b; point =o (0,0); image =n j o; tell n", []string{"-1/2i", "inf"}},
		{"map =j (0,0) (1,0) (1,0) (0,0); circle =u (1,0) (0,1) (-1,0); image =a j u; tell a; circle =r (0,0) (1,0) (inf); image =b j r; tell b; round =c (1/2,0) (1/4,0); image =d j c; tell d", []string{"1 0 -1", "0 1i 0", "0 1 -2"}},
		{"ratio (0,0) (1,0) (1,1) (0,1); ratio (0,0) (1,0) (2,0) (3,0); send =m (0,0) (1,0) (2,0) (1,0) (2,0) (inf); tell m", []string{"-1", "-1/3", "map 0 -2 1 -2"}},
		{"map =a (0,1) (0,0) (0,0) (1,0); order a; map =b (0,0) (-1,0) (1,0) (1,0); order b; map =c (1,0) (1,0) (0,0) (1,0); order c", []string{"4", "3", "0"}},
		{"home =a (3/5,4/5); tell a; home =b (7,1); tell b; home =c (0,1/2); tell c", []string{"-1/2+1i", "1i", "2i"}},
		{"disk =o (0,0) (-1,0); disk =a (1/2,0) (1/2,0); disk =b (-1/2,0) (1/2,0); disk =c (0,2/3) (1/3,0); four =f o a b c; pack f #1; swap =g f #0; tell g", []string{"-1", "2", "2", "3", "15", "6", "6", "3", "15 4i 1", "2 1 0", "2 -1 0", "3 2i 1"}},
		{"knife =k (1/2,0); member =d k #1; tell d", []string{"6 3+2i 2"}},
		{"net =n #2 #2 (1,0) (1,0) (-1,0) (-1,0) (0,0) (1,0) (2,0) (0,1) (0,2); tell n", []string{"0 1 2", "1i 1+1i 2+1i", "2i 1+2i 2+2i"}},
		{"far #1 (0,1) (0,2); far #2 (0,0) (1/3,0)", []string{"5/4", "5/4"}},
	} {
		scene := sceneOf(t, x.scene)
		if l, n, e := shop.New().Run(scene...); !slices.Equal(l, x.want) || n != len(scene) || e != api.OK {
			t.Errorf("%s: %q, %d, %v", x.scene, l, n, e)
		}
	}
}
