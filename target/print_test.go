package target_test

import (
	"math"
	"testing"

	"cupel/api"
	"cupel/target"
)

func text(t *testing.T, i api.Image) string {
	t.Helper()
	s, e := target.Print(i)
	if e != api.OK {
		t.Fatalf("Print: error %d", e)
	}
	return s
}

// P20.4: the canonical text of every operation.
func TestCanonicalText(t *testing.T) {
	if s := text(t, read(t, whole)); s != whole {
		t.Errorf("Print: %s", s)
	}
	if s := text(t, api.Image{}); s != "entry 0;\n" {
		t.Errorf("Print of nothing: %q", s)
	}
	i := api.Image{Code: []uint64{14, 0x103, 5}, Data: []int64{math.MinInt64, 0}, Entry: 3}
	if s := text(t, i); s != "entry 3;\ndata -9223372036854775808;\ndata 0;\nhalt;\nwide r1, 5;\n" {
		t.Errorf("Print: %q", s)
	}
}

// P20.4, P20.5: the canonical texts of made images, which are read as these images.
func TestTextsOfImages(t *testing.T) {
	r := random(8)
	for range 1500 {
		l := drawCode(r, r.IntN(30))
		i := api.Image{Code: wordsOf(l)}
		for range r.IntN(5) {
			i.Data = append(i.Data, extremes()[r.IntN(len(extremes()))])
		}
		i.Entry = r.IntN(len(i.Code) + 1)
		s := text(t, i)
		if want := modelText(i.Entry, i.Data, l); s != want {
			t.Fatalf("Print(%+v) = %s, want %s", i, s, want)
		}
		if back := read(t, s); !sameImage(back, i) {
			t.Fatalf("Parse(%s) = %+v, want %+v", s, back, i)
		}
	}
}

// P20.4, P20.5: canonical texts may be longer than what Parse reads.
func TestLongCanonicalTexts(t *testing.T) {
	const data, wide = "data -9223372036854775808;\n", "wide r9, -9223372036854775808;\n"
	i := api.Image{Data: repeated(20000, int64(math.MinInt64))}
	for range 10000 {
		i.Code = append(i.Code, 0x903, 1<<63)
	}
	s := text(t, i)
	if len(s) != len("entry 0;\n")+20000*len(data)+10000*len(wide) {
		t.Fatalf("%d bytes", len(s))
	}
	refuse(t, s, 0, api.ErrLong)
	room := 600000 - len("entry 0;\n") - 20000*len(data)
	i.Code = i.Code[:room/len(wide)*2]
	if back := read(t, text(t, i)); !sameImage(back, i) {
		t.Error("the image is not read as it is")
	}
	i.Code = i.Code[:len(i.Code)+2]
	refuse(t, text(t, i), 0, api.ErrLong)
}
