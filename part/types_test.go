package part_test

import (
	"testing"

	"zoetrope/api"
	"zoetrope/part"
)

func typesAre(t *testing.T, size, want int) {
	t.Helper()
	e := api.OK
	if want == 0 {
		e = api.ErrArg
	}
	if n, f := part.Types(size); n != want || f != e {
		t.Fatalf("Types(%d): %d, %d, want %d, %d", size, n, f, want, e)
	}
}

// The chapter's row (P16.1).
func TestTypesOfExamples(t *testing.T) {
	typesAre(t, 64, 10)
	typesAre(t, 16, 8)
	typesAre(t, 8, 1)
	typesAre(t, 4, 0)
}

// The four sizes, and every number between and around them (P16.1).
func TestTypes(t *testing.T) {
	for size := -300; size <= 300; size++ {
		want := 0
		switch size {
		case 64, 32:
			want = 10
		case 16:
			want = 8
		case 8:
			want = 1
		}
		typesAre(t, size, want)
	}
	for _, size := range noSizes() {
		typesAre(t, size, 0)
	}
}
