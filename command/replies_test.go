package command

import (
	"testing"

	"cistern/api"
)

// TestYesOrNo: 1 and 0.
func TestYesOrNo(t *testing.T) {
	if r := YesOrNo(true); r.Kind != api.ReplyInt || r.N != 1 {
		t.Errorf("yes: %+v", r)
	}
	if r := YesOrNo(false); r.Kind != api.ReplyInt || r.N != 0 {
		t.Errorf("no: %+v", r)
	}
}

// TestListed: a reply of a kind with texts, in their order; none at all.
func TestListed(t *testing.T) {
	for _, kind := range []int{api.ReplyArray, api.ReplyMap, api.ReplySet} {
		if r := Listed(kind); r.Kind != kind || len(r.List) != 0 {
			t.Errorf("Listed(%d) = %+v", kind, r)
		}
		r := Listed(kind, "b", "", "a")
		if r.Kind != kind || len(r.List) != 3 {
			t.Fatalf("Listed(%d, ..) = %+v", kind, r)
		}
		for i, want := range []string{"b", "", "a"} {
			if one := r.List[i]; one.Kind != api.ReplyBulk || one.Text != want {
				t.Errorf("Listed(%d, ..) has %+v at the place %d", kind, one, i)
			}
		}
	}
}

// TestNullArray: the null of arrays, which is not that of texts.
func TestNullArray(t *testing.T) {
	if r := NullArray(); r.Kind != api.ReplyNulls || r.N != 0 || r.Text != "" || len(r.List) != 0 {
		t.Errorf("NullArray() = %+v", r)
	}
}
