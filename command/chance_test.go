package command

import (
	"fmt"
	"slices"
	"testing"

	"cistern/api"
)

// TestSampleSize: numbers up to the greatest that may be, one beyond each, and words that are none.
func TestSampleSize(t *testing.T) {
	for _, n := range []int{0, 1, -1, api.MaxCount, -api.MaxCount} {
		if got, err := SampleSize(fmt.Sprint(n)); got != n || err != nil {
			t.Errorf("SampleSize(%d) = %d, %v", n, got, err)
		}
	}
	for _, word := range []string{"", "x", "01", "-0", "1048577", "-1048577", "9223372036854775807", "-9223372036854775808", "9223372036854775808"} {
		if n, err := SampleSize(word); n != 0 || told(err) != "ERR value is out of range" {
			t.Errorf("SampleSize(%q) = %d, %v", word, n, err)
		}
	}
}

// drawn takes n of so many places one by one, out of a list.
func drawn(c *Call, n, of int) []int {
	var left, places []int
	for i := range of {
		left = append(left, i)
	}
	for range n {
		i := c.Space.Random(len(left))
		places = append(places, left[i])
		left = slices.Delete(left, i, i+1)
	}
	return places
}

// TestDraw: places that are taken one by one, of all numbers of places up to some, and of many.
func TestDraw(t *testing.T) {
	one, other := &Call{Space: newSpace(t)}, &Call{Space: newSpace(t)}
	for of := range 70 {
		for n := range of + 1 {
			if got, want := one.Draw(n, of), drawn(other, n, of); !slices.Equal(got, want) {
				t.Fatalf("Draw(%d, %d) = %v; want %v", n, of, got, want)
			}
		}
	}
	for _, c := range [][2]int{{1, 1000}, {999, 1000}, {1000, 1000}, {1024, 1024}, {1025, 1025}, {1023, 1023}, {3000, 4097}} {
		if got, want := one.Draw(c[0], c[1]), drawn(other, c[0], c[1]); !slices.Equal(got, want) {
			t.Fatalf("Draw(%d, %d) takes other places", c[0], c[1])
		}
	}
}

// TestAt: what stands at places, in their order, one of them again and again; the list stays.
func TestAt(t *testing.T) {
	list := []string{"a", "b", "c"}
	if got := At(list, 2, 0, 0, 1, 0); !slices.Equal(got, []string{"c", "a", "a", "b", "a"}) {
		t.Errorf("At = %q", got)
	}
	if got := At(list); len(got) != 0 {
		t.Errorf("At no places = %q", got)
	}
	At(list, 0, 1, 2)[0] = "spoilt"
	if !slices.Equal(list, []string{"a", "b", "c"}) {
		t.Errorf("the list has become %q", list)
	}
}

// TestDrawMost: of as many places as a value may have elements all are taken, each once.
func TestDrawMost(t *testing.T) {
	c := &Call{Space: newSpace(t)}
	places := c.Draw(api.MaxCount, api.MaxCount)
	slices.Sort(places)
	for i, place := range places {
		if place != i {
			t.Fatalf("the place %d is %d", i, place)
		}
	}
}

// TestSample: all places, fewer, and some that may come again; a number by chance is asked for each that is picked, and for no other.
func TestSample(t *testing.T) {
	one, other := &Call{Space: newSpace(t)}, &Call{Space: newSpace(t)}
	for of := range 20 {
		for n := -25; n <= 25; n++ {
			var want []int
			switch {
			case n >= of:
				for i := range of {
					want = append(want, i)
				}
			case n >= 0:
				want = drawn(other, n, of)
			case of > 0:
				for range -n {
					want = append(want, other.Space.Random(of))
				}
			}
			if got := one.Sample(n, of); !slices.Equal(got, want) {
				t.Fatalf("Sample(%d, %d) = %v; want %v", n, of, got, want)
			}
			if a, b := one.Space.Random(1<<30), other.Space.Random(1<<30); a != b {
				t.Fatalf("Sample(%d, %d): another number of numbers by chance", n, of)
			}
		}
	}
}
