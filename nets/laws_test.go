package nets_test

import (
	"math/rand"
	"testing"

	"tracery/api"
	"tracery/cross"
	"tracery/gauss"
	"tracery/mob"
	"tracery/nets"
)

// P27.6: all squares fit, as the layer below tells ratios, and no two corners of
// one are the same.
func TestAllSquaresFit(t *testing.T) {
	for _, n := range append(meshes(), square(5, 7).image(charted(0, 1, 1, 0)).mesh(t)) {
		made := n.net(t)
		w, h := made.Size()
		for j := 1; j <= h; j++ {
			for i := 1; i <= w; i++ {
				l, _ := made.Square(i, j)
				k, _ := made.Label(i, j)
				r, e := cross.Ratio(l[0], l[1], l[2], l[3])
				want(t, "the ratio", r, e, api.Point{Z: k})
				for x := range l {
					for y := range x {
						if l[x] == l[y] {
							t.Fatal("two corners are the same")
						}
					}
				}
			}
		}
	}
}

// P27.6: Corner of p, s, q and 1 / ratio is Corner of p, q, s and ratio.
func TestCornerEitherWay(t *testing.T) {
	r := rand.New(rand.NewSource(2760))
	next, label := pooled(r), smallLabel(r)
	seen := tally{}
	for range 2000 {
		p, q, s, k := next().point(), next().point(), next().point(), label().gauss()
		over, _ := gauss.Div(gauss.Int(1, 0), k)
		x, e := nets.Corner(p, q, s, k)
		y, f := nets.Corner(p, s, q, over)
		if x != y || e != f {
			t.Fatalf("one way %s, %v, the other way %s, %v", brief(x), e, brief(y), f)
		}
		if e == api.OK {
			seen["told"]++
			ratio, e := cross.Ratio(p, q, x, s)
			want(t, "the ratio", ratio, e, api.Point{Z: k})
			if x == p || x == q || x == s {
				t.Fatal("it is one of the three")
			}
		}
	}
	seen.least(t, 500, "told")
}

// P27.6, P0.9: a net's image is the net of the images of its sides.
func TestImageIsANet(t *testing.T) {
	for k, n := range meshes() {
		made := n.net(t)
		s, _ := made.Sides()
		for j, c := range charts() {
			if (k+j)%6 > 0 {
				continue
			}
			m := c.mob()
			image, e := made.Image(m)
			if e != api.OK {
				t.Fatal(e)
			}
			sides := api.NetSides{}
			sides.Row, _ = mob.Images(m, s.Row...)
			sides.Column, _ = mob.Images(m, s.Column...)
			sides.A, sides.B = gausses(n.image(c).a), gausses(n.image(c).b)
			again, e := nets.New(sides)
			if e != api.OK || !again.Same(image) {
				t.Fatalf("New of the images: %v", e)
			}
			back, _ := mob.Inverse(m)
			home, e := image.Image(back)
			if e != api.OK || !home.Same(made) {
				t.Fatalf("the image's image: %v", e)
			}
		}
	}
}

// P27.6: each square's last corner is Corner of the other three and its label.
func TestSquaresByCorner(t *testing.T) {
	for _, n := range meshes() {
		made := n.net(t)
		for j := range n.b {
			for i := range n.a {
				l, _ := made.Square(i+1, j+1)
				k, _ := made.Label(i+1, j+1)
				p, e := nets.Corner(l[0], l[1], l[3], k)
				want(t, "Corner", p, e, l[2])
			}
		}
	}
}

// P27.6, P0.9: three faces of a cube, by Corner alone.
func TestCubeByCorner(t *testing.T) {
	r := rand.New(rand.NewSource(2761))
	next, label := pooled(r), smallLabel(r)
	seen := tally{}
	for range 1000 {
		k := block{next(), next(), next(), next(), label(), label(), label()}
		if !k.labels() {
			continue
		}
		c := k.cube()
		l, e := nets.Faces(c)
		if e != api.OK {
			continue
		}
		seen["told"]++
		over := func(x, y api.Gauss) api.Gauss {
			z, _ := gauss.Div(x, y)
			return z
		}
		p12, _ := nets.Corner(c.P, c.P1, c.P2, over(c.A, c.B))
		p13, _ := nets.Corner(c.P, c.P1, c.P3, over(c.A, c.C))
		p23, _ := nets.Corner(c.P, c.P2, c.P3, over(c.B, c.C))
		first, e := nets.Corner(c.P1, p12, p13, over(c.B, c.C))
		want(t, "the first face", first, e, l[0])
		second, e := nets.Corner(c.P2, p12, p23, over(c.A, c.C))
		want(t, "the second face", second, e, l[1])
		third, e := nets.Corner(c.P3, p13, p23, over(c.A, c.B))
		want(t, "the third face", third, e, l[2])
	}
	seen.least(t, 100, "told")
}
