package lzf

import (
	"strconv"
	"strings"
	"sync"
	"testing"
	"time"

	"cistern/api"
)

// checkPack holds what Pack answers against L2 and L3, by Unpack and by the chapter's words; whether it found one.
func checkPack(t *testing.T, name, s string) bool {
	t.Helper()
	p, ok := Pack(s)
	if !ok {
		if p != "" {
			t.Errorf("%s (%d bytes): %d bytes beside false", name, len(s), len(p))
		}
		return false
	}
	if len(p) > len(s)-4 {
		t.Errorf("%s: %d bytes packed into %d", name, len(s), len(p))
	}
	if got, err := Unpack(p, len(s)); got != s || err != api.OK {
		t.Errorf("%s (%d bytes): unpacked are %d bytes, error %d, the same: %v", name, len(s), len(got), err, got == s)
	}
	if len(s) <= 20000 {
		if got, err := reference(p, len(s)); got != s || err != api.OK {
			t.Errorf("%s (%d bytes): by the chapter's words %d bytes, error %d", name, len(s), len(got), err)
		}
	}
	return true
}

func wantPack(t *testing.T, name, s string) {
	t.Helper()
	if !checkPack(t, name, s) {
		t.Errorf("%s: %d bytes are not packed", name, len(s))
	}
}

func TestL2Ordinary(t *testing.T) {
	words := strings.Repeat("the same words, ", 8)
	var numbers strings.Builder
	for i := range 3000 {
		numbers.WriteString("key:" + strconv.Itoa(i) + "\n")
	}
	for name, s := range map[string]string{
		"words":   words,
		"numbers": numbers.String(),
		"program": strings.Repeat("if err != nil {\n\treturn err\n}\nfor i := range n {\n", 5),
		"zeros":   strings.Repeat("\x00", 300) + "x" + strings.Repeat("\x00", 300),
		"high":    strings.Repeat("\xff\xfe\xfd", 30),
	} {
		wantPack(t, name, s)
	}
	m := mix(3)
	for n := range 600 {
		for _, kinds := range []int{1, 2, 3, 5, 16, 256} {
			checkPack(t, "kinds "+strconv.Itoa(kinds), m.text(n, kinds))
		}
	}
}

func TestL2NotWorthIt(t *testing.T) {
	m := mix(5)
	distinct := ""
	for c := range 256 {
		distinct += string([]byte{byte(c)})
	}
	for _, s := range []string{"", "a", "ab", "abc", "aaa", "aaaa", "abcd", "abcdefghijklmnopqrstuvwxyz", distinct, m.text(1000, 256)} {
		if p, ok := Pack(s); ok || p != "" {
			t.Errorf("Pack(%.30q) = %q, %v", s, p, ok)
		}
	}
}

// TestL2Gain: pieces that are 4 bytes shorter are an answer, such that are 3 are none.
func TestL2Gain(t *testing.T) {
	gains := map[int]int{}
	for n := range 40 {
		for _, s := range []string{strings.Repeat("a", n), "bc" + strings.Repeat("a", n), strings.Repeat("ab", n), "01234567" + strings.Repeat("xyz", n)} {
			gain := len(s) - len(pieces(s))
			gains[gain]++
			p, ok := Pack(s)
			if ok != (gain >= 4) {
				t.Errorf("%q is packed: %v; its pieces are %d bytes shorter", s, ok, gain)
			}
			if !ok && p != "" {
				t.Errorf("%q: %q beside false", s, p)
			}
		}
	}
	if gains[3] == 0 || gains[4] == 0 {
		t.Errorf("none is 3 bytes shorter, or none is 4: %v", gains)
	}
	wantPack(t, "4 bytes shorter", "aaaaaaaa")
	if p, ok := Pack("aaaaaaa"); ok || p != "" {
		t.Errorf("3 bytes shorter: %q, %v", p, ok)
	}
}

func TestL2SameBytes(t *testing.T) {
	sizes := []int{api.MaxElement, api.MaxElement - 1, 1 << 18, 1<<18 + 1, 100003, 8192, 8193, 8194, 8455, 8456, 8457}
	for n := 20; n <= 1200; n++ {
		sizes = append(sizes, n)
	}
	for _, n := range sizes {
		wantPack(t, "same bytes", strings.Repeat(string([]byte{byte(n * 31)}), n))
	}
}

func TestL2TooLong(t *testing.T) {
	for _, s := range []string{
		strings.Repeat("a", api.MaxElement+1),
		strings.Repeat("a", 2*api.MaxElement),
		strings.Repeat("some words ", api.MaxElement/4),
	} {
		if p, ok := Pack(s); ok || p != "" {
			t.Errorf("%d bytes are packed into %d", len(s), len(p))
		}
	}
}

// halves are texts that are hard to find again, each for another reason.
func halves(n int) map[string]string {
	m := mix(n + 17)
	steps := make([]byte, n)
	threes := make([]byte, 0, n+3)
	crowd := oneBucket(2 * n)
	for i := range n {
		steps[i] = byte(i * (i/256 + 1))
		threes = append(threes, 'a', 'b', byte(m.below(256)))
	}
	crowded := ""
	for len(crowded) < n {
		crowded += crowd[m.below(len(crowd))]
	}
	return map[string]string{
		"mixed":              m.text(n, 256),
		"of two kinds":       m.text(n, 2),
		"of three kinds":     m.text(n, 3),
		"of nine kinds":      m.text(n, 9),
		"steps":              string(steps),
		"the same each time": string(threes[:n]),
		"in one bucket":      crowded[:n],
		"no three twice":     noThreeTwice(n),
	}
}

// oneBucket gives three bytes each that share a bucket of a text of that size.
func oneBucket(size int) []string {
	var list []string
	shift := newTable(strings.Repeat("x", size)).shift
	for k := 0; len(list) < 1000 && k < 1<<24; k++ {
		three := string([]byte{byte(k >> 16), byte(k >> 8), byte(k)})
		if t := (&table{text: three, shift: shift}); t.bucket(0) == 0 {
			list = append(list, three)
		}
	}
	return list
}

// noThreeTwice gives up to 4096 bytes of 16 kinds in which no three come twice: at each place the greatest byte that makes a new one.
func noThreeTwice(n int) string {
	used := map[string]int{}
	s := "\x00\x00"
	for len(s) < n {
		for c := 15; c >= 0; c-- {
			three := s[len(s)-2:] + string([]byte{byte(c)})
			if used[three] == 0 {
				used[three] = 1
				s += three[2:]
				break
			}
		}
	}
	return s
}

func TestL2Twice(t *testing.T) {
	sizes := []int{32, 33, 34, 35, 40, 63, 64, 65, 96, 100, 255, 256, 257, 264, 265, 266, 500, 1000, 2047, 2048, 3000, 3999, 4000}
	for _, n := range sizes {
		for name, half := range halves(n) {
			if len(half) != n {
				t.Fatalf("%s: %d bytes for %d", name, len(half), n)
			}
			wantPack(t, name, half+half)
		}
	}
}

// TestL2TwiceShort goes through the least sizes, where little is won: hundreds of texts each.
func TestL2TwiceShort(t *testing.T) {
	m := mix(23)
	for n := 32; n <= 48; n++ {
		for _, kinds := range []int{2, 3, 4, 6, 9, 16, 64, 256} {
			for range 60 {
				half := m.text(n, kinds)
				wantPack(t, "short", half+half)
			}
		}
	}
}

// TestL2Farthest: a text is found again as far ahead as the form can say, and no further.
func TestL2Farthest(t *testing.T) {
	m := mix(29)
	lead := m.text(20, 200)
	for gap := 8180; gap < 8205; gap++ {
		// Bytes that neither the lead nor they themselves have three of in common.
		s := lead + fill(gap-len(lead)) + lead
		checkPack(t, "far", s)
		p := string(pieces(s))
		shorter := len(runs(s)) - len(p)
		if found := shorter > 0; found != (gap <= 8192) {
			t.Fatalf("from %d bytes ahead: the pieces are %d bytes shorter than runs", gap, shorter)
		}
		if got, err := reference(p, len(s)); got != s || err != api.OK {
			t.Fatalf("from %d bytes ahead: the pieces are not the text: %d", gap, err)
		}
	}
}

// fill gives bytes from 200 on in which no three come twice.
func fill(n int) string {
	b := make([]byte, 0, n)
	used := make(map[[3]byte]int)
	x, y := byte(200), byte(200)
	for len(b) < n {
		for c := 255; c >= 200; c-- {
			three := [3]byte{x, y, byte(c)}
			if used[three] == 0 {
				used[three] = 1
				b = append(b, byte(c))
				x, y = y, byte(c)
				break
			}
		}
	}
	return string(b)
}

// TestL2Steps: texts of the greatest size take about as long for each byte as short ones: with steps for each two bytes it would be hours.
func TestL2Steps(t *testing.T) {
	m := mix(31)
	crowd := oneBucket(api.MaxElement)
	var crowded strings.Builder
	for crowded.Len() < api.MaxElement {
		crowded.WriteString(crowd[m.below(len(crowd))])
	}
	for name, s := range map[string]string{
		"mixed":         m.text(api.MaxElement, 256),
		"of two kinds":  m.text(api.MaxElement, 2),
		"same bytes":    strings.Repeat("a", api.MaxElement),
		"words":         strings.Repeat("some words, and others; ", api.MaxElement/24),
		"in one bucket": crowded.String()[:api.MaxElement],
	} {
		start := time.Now()
		checkPack(t, name, s)
		if took := time.Since(start); took > 30*time.Second {
			t.Errorf("%s: %v", name, took)
		}
	}
}

func TestL3ThereAndBack(t *testing.T) {
	m := mix(37)
	found := 0
	for range 3000 {
		s := m.text(1+m.below(200), 1+m.below(256))
		for range m.below(12) {
			from := m.below(len(s))
			s += s[from:from+m.below(len(s)-from+1)] + m.text(m.below(4), 256)
			if len(s) > 12000 {
				break
			}
		}
		if checkPack(t, "mended", s) {
			found++
		}
	}
	if found < 1000 {
		t.Errorf("only %d of 3000 texts were packed", found)
	}
}

// TestAlone: the same text gives the same answer, whatever else is asked at the same time and ahead of it.
func TestAlone(t *testing.T) {
	m := mix(41)
	var texts, packed []string
	for range 60 {
		s := m.text(1+m.below(3000), 1+m.below(6))
		p, _ := Pack(s)
		texts, packed = append(texts, s), append(packed, p)
	}
	var group sync.WaitGroup
	for g := range 8 {
		group.Go(func() {
			for k := range texts {
				i := (k + g*7) % len(texts)
				p, ok := Pack(texts[i])
				if p != packed[i] || ok != (p != "") {
					t.Errorf("text %d is packed otherwise", i)
				}
				if ok {
					if s, err := Unpack(p, len(texts[i])); s != texts[i] || err != api.OK {
						t.Errorf("text %d is unpacked otherwise", i)
					}
				}
			}
		})
	}
	group.Wait()
}

func FuzzTotal(f *testing.F) {
	f.Add("\x02abc", 3)
	f.Add("\x00a\xe0\x01\x00", 11)
	f.Add("the same words, the same words", 30)
	f.Fuzz(func(t *testing.T, p string, size int) {
		got, err := Unpack(p, size)
		if want, wantErr := reference(p, size); got != want || err != wantErr {
			t.Fatalf("Unpack(%q, %d) = %q, %d; want %q, %d", p, size, got, err, want, wantErr)
		}
		checkPack(t, "any", p)
		checkPack(t, "any twice", p+p)
	})
}
