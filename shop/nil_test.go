package shop_test

import (
	"testing"

	"tracery/api"
	"tracery/shop"
)

// A nil shop, and one that no call has made.
func TestNoShop(t *testing.T) { // P31.1 to P31.4
	for _, s := range []*shop.Shop{nil, {}, new(shop.Shop)} {
		for _, x := range append(sceneOf(t, good), api.Stmt{}, read(t, "fly"), read(t, "tell nobody"), read(t, "word [1]"), read(t, "then =z")) {
			if l, e := s.Do(x); l != nil || e != api.ErrNil {
				t.Fatalf("%s: %q, %v", lineOf(x), l, e)
			}
			if l, n, e := s.Run(x); l != nil || n != 0 || e != api.ErrNil {
				t.Fatalf("%s: %q, %d, %v", lineOf(x), l, n, e)
			}
		}
		if l, n, e := s.Run(); l != nil || n != 0 || e != api.ErrNil {
			t.Errorf("%q, %d, %v", l, n, e)
		}
		if n := s.Len(); n != 0 {
			t.Error(n)
		}
		all := s.All()
		if all == nil {
			t.Fatal("no iterator")
		}
		for range 2 {
			for name, kind := range all {
				t.Error(name, kind)
			}
		}
		for _, name := range []string{"", "z", "Z", "point"} {
			if x, e := s.Thing(name); x.Kind != 0 || x.Net.A != nil || e != api.ErrNil {
				t.Error(x, e)
			}
			if l, e := s.Text(name); l != nil || e != api.ErrNil {
				t.Error(l, e)
			}
		}
		if p := s.Picture(); p != nil {
			t.Error(p)
		}
		if c := s.Copy(); c != nil {
			t.Error("a copy of none")
		}
	}
}

// A new shop is there, and empty.
func TestNew(t *testing.T) { // P31.1
	s := shop.New()
	if s == nil || s.Len() != 0 || len(s.Picture()) != 0 {
		t.Fatal(s)
	}
	for name := range s.All() {
		t.Error(name)
	}
	if c := s.Copy(); c == nil || c == s || c.Len() != 0 {
		t.Error(c)
	}
	if l, n, e := s.Run(); len(l) != 0 || n != 0 || e != api.OK {
		t.Error(l, n, e)
	}
	if _, e := s.Thing("z"); e != api.ErrName {
		t.Error(e)
	}
	run(t, s, "point =z (1,0)")
	if o := shop.New(); o.Len() != 0 {
		t.Error("not apart")
	}
}
