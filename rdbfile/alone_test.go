package rdbfile

import (
	"slices"
	"strings"
	"sync"
	"testing"
	"unsafe"

	"cistern/api"
)

// own is a text whose bytes the test can change behind the program's back.
func own(s string) (string, []byte) {
	b := []byte(s)
	if len(b) == 0 {
		return "", b
	}
	return unsafe.String(&b[0], len(b)), b
}

// ownImage is an image of such texts.
func ownImage(i api.Image) (api.Image, [][]byte) {
	var all [][]byte
	text := func(s string) string {
		s, b := own(s)
		all = append(all, b)
		return s
	}
	var j api.Image
	for _, pair := range i.Aux {
		j.Aux = append(j.Aux, api.Pair{Name: text(pair.Name), Value: text(pair.Value)})
	}
	for _, space := range i.Spaces {
		like := api.Space{Index: space.Index}
		for _, item := range space.Items {
			like.Items = append(like.Items, api.Item{Key: text(item.Key), Body: text(item.Body), Type: item.Type, Expiry: item.Expiry})
		}
		j.Spaces = append(j.Spaces, like)
	}
	return j, all
}

// cloneImage is a copy with lists and texts of its own.
func cloneImage(i api.Image) api.Image {
	j, _ := ownImage(i)
	return j
}

func scratch(all [][]byte) {
	for _, b := range all {
		for i := range b {
			b[i] ^= 0x55
		}
	}
}

// TestDecodeAlone: bytes that are handed in stay as they are, and what is answered does not hang on them later.
func TestDecodeAlone(t *testing.T) {
	m := mix(30)
	for range 500 {
		i := someImage(&m)
		file := encoded(t, i, m.below(2) == 0)
		s, bytes := own(file)
		got, _, e := Decode(s)
		findings, _, f := Parts(s)
		if string(bytes) != file {
			t.Fatal("the bytes were changed")
		}
		want, _, _ := Parts(file)
		scratch([][]byte{bytes})
		if e != api.OK || f != api.OK || !same(got, i) || !slices.Equal(findings, want) {
			t.Fatalf("%s hangs on bytes that were changed later", shortImage(got))
		}
	}
}

// TestEncodeAlone: an image that is handed in stays as it is, and no answer hangs on it later.
func TestEncodeAlone(t *testing.T) {
	m := mix(31)
	for range 500 {
		i := someImage(&m)
		j, all := ownImage(i)
		s := encoded(t, j, m.below(2) == 0)
		again := strings.Clone(s)
		sp, e := Load(j, config(16, middle), 3)
		if !same(i, j) || e != api.OK {
			t.Fatalf("%s; once %s; %d", shortImage(j), shortImage(i), e)
		}
		scratch(all)
		for n := range j.Spaces {
			clear(j.Spaces[n].Items)
		}
		clear(j.Aux)
		clear(j.Spaces)
		if s != again {
			t.Fatal("the file hangs on texts that were changed later")
		}
		sameSpace(t, sp, refLoad(t, i, config(16, middle), 3))
	}
}

// TestRefusedAlone: an image that is refused stays as it is.
func TestRefusedAlone(t *testing.T) {
	for _, f := range flaws() {
		i := spaces(4)
		f.spoil(&i, &i.Spaces[2])
		was := cloneImage(i)
		Encode(i, true)
		Load(i, config(16, middle), 0)
		if !same(i, was) {
			t.Errorf("%s: changed", f.name)
		}
	}
}

// TestSnapAlone: no image hangs on the aux texts or on the space later, nor on another image of it.
func TestSnapAlone(t *testing.T) {
	m := mix(32)
	for range 200 {
		sp := grownSpace(&m, config(4, middle), several...)
		name, bytes := own("a name")
		aux := []api.Pair{{Name: name, Value: name}, {Name: "b", Value: "c"}}
		i := snapped(t, sp, aux...)
		want := refSnap(sp.Clone(), api.Pair{Name: "a name", Value: "a name"}, api.Pair{Name: "b", Value: "c"})
		other := snapped(t, sp, aux...)
		if string(bytes) != "a name" || aux[1].Name != "b" {
			t.Fatal("the aux texts were changed")
		}
		scratch([][]byte{bytes})
		clear(aux)
		clear(other.Aux)
		for n := range other.Spaces {
			clear(other.Spaces[n].Items)
		}
		for db := range 4 {
			for _, key := range sp.Keys(db) {
				v, _ := sp.Peek(db, key)
				v.SetText("changed")
				v.Pop(true, 99)
				v.Add("more")
				v.Put(api.Field{Name: "more"})
			}
		}
		sp.Flush(-1)
		if !same(i, want) {
			t.Fatalf("%s; want %s", shortImage(i), shortImage(want))
		}
	}
}

// TestLoadAlone: two spaces of one image are apart from each other.
func TestLoadAlone(t *testing.T) {
	i := one(every()...)
	a, _ := Load(i, config(2, middle), 0)
	b, _ := Load(i, config(2, middle), 0)
	for _, key := range a.Keys(0) {
		v, _ := a.Peek(0, key)
		v.SetText("changed")
		v.Push(true, "more")
		v.Add("more")
	}
	a.Flush(-1)
	sameSpace(t, b, refLoad(t, i, config(2, middle), 0))
}

// TestRoom: what stands behind the end of a list that is answered is nobody's.
func TestRoom(t *testing.T) {
	s := encoded(t, samples()[6], false)
	i, _, _ := Decode(s)
	was := cloneImage(i)
	i.Spaces[0].Items = append(i.Spaces[0].Items, api.Item{Key: "more"})
	i.Aux = append(i.Aux, api.Pair{Name: "more"})
	i.Spaces = append(i.Spaces, api.Space{Index: 99})
	i.Spaces, i.Aux = i.Spaces[:2], i.Aux[:1]
	i.Spaces[0].Items = i.Spaces[0].Items[:len(was.Spaces[0].Items)]
	if !same(i, was) {
		t.Error("one list's end is another one's")
	}
	if j, _, _ := Decode(s); !same(j, was) {
		t.Error("another answer")
	}
}

// TestAtOnce: calls from several goroutines answer as calls one by one.
func TestAtOnce(t *testing.T) {
	m := mix(33)
	sp := grownSpace(&m, config(4, middle), several...)
	image := snapped(t, sp)
	files := hostileFiles(t, &m, 100)
	for n := range files {
		if n%3 == 0 {
			files[n] = changed(files[n], m.below(8*len(files[n])), m.next()|1)
		}
	}
	var group sync.WaitGroup
	for range 4 {
		group.Go(func() {
			for _, s := range files {
				want := refRead(s)
				i, at, e := Decode(s)
				findings, _, _ := Parts(s)
				if at != want.at || e != want.e || !same(i, want.image) || !slices.Equal(findings, want.findings) {
					t.Errorf("%q: another answer", s)
				}
			}
			if i, e := Snap(sp); e != api.OK || !same(i, image) {
				t.Errorf("another image")
			}
			if _, e := Load(image, config(4, middle), sp.Now()); e != api.OK {
				t.Errorf("error %d", e)
			}
		})
	}
	group.Wait()
}
