// Package given: tests of what is given, and stays (P5).
package given

import (
	"crypto/sha256"
	"encoding/hex"
	"errors"
	"os"
	"testing"

	"herepath/api"
	"herepath/plain"
)

func TestGivenFilesStayToTheByte(t *testing.T) {
	for file, want := range map[string]string{
		"../api/api.go":     "ea3dfb44443888856584c07ee02bba766344b74746710a454c09c0f24fbc8ca0",
		"../plain/plain.go": "6ab0541abbcab4e2d26004cb0ac2b89fbc1e59b994e56b67e08a6761a9cb0776",
	} {
		b, err := os.ReadFile(file)
		if err != nil {
			t.Fatal(err)
		}
		sum := sha256.Sum256(b)
		if got := hex.EncodeToString(sum[:]); got != want {
			t.Errorf("%s is not as given: %s", file, got)
		}
	}
}

func TestBoundsHaveTheirNumbers(t *testing.T) {
	for _, c := range []struct {
		name      string
		got, want int
	}{
		{"MaxAS", api.MaxAS, 1000},
		{"MaxPath", api.MaxPath, 12},
		{"MaxTags", api.MaxTags, 8},
		{"MaxTag", api.MaxTag, 9999},
		{"MaxNum", api.MaxNum, 1000},
		{"MaxRoutes", api.MaxRoutes, 60},
		{"MaxRules", api.MaxRules, 10},
		{"MaxNodes", api.MaxNodes, 6},
		{"MaxText", api.MaxText, 8000},
		{"MaxTicks", api.MaxTicks, 3},
		{"MaxPlay", api.MaxPlay, 2000},
		{"MaxScript", api.MaxScript, 80},
		{"Workers", api.Workers, 16},
	} {
		if c.got != c.want {
			t.Errorf("%s is %d, want %d", c.name, c.got, c.want)
		}
	}
}

func TestErrorsHaveTheirTextsAndCodes(t *testing.T) {
	for i, c := range []struct {
		err  error
		text string
	}{
		{api.ErrText, "herepath: text"},
		{api.ErrBound, "herepath: bound"},
		{api.ErrShape, "herepath: shape"},
		{api.ErrKind, "herepath: kind"},
		{api.ErrNone, "herepath: none"},
		{api.ErrExist, "herepath: exist"},
		{api.ErrFull, "herepath: full"},
		{api.ErrOrder, "herepath: order"},
		{api.ErrLoop, "herepath: loop"},
	} {
		if c.err.Error() != c.text {
			t.Errorf("%q, want %q", c.err.Error(), c.text)
		}
		if code, at := plain.Code(c.err); code != i+1 || at != -1 {
			t.Errorf("%v has code %d at %d, want %d at -1", c.err, code, at, i+1)
		}
		f := &api.Fault{At: 7, Err: c.err}
		if f.Error() != c.text || f.Unwrap() != c.err {
			t.Errorf("a fault of %v tells %v", c.err, f)
		}
		if code, at := plain.Code(f); code != i+1 || at != 7 {
			t.Errorf("a fault of %v has code %d at %d, want %d at 7", c.err, code, at, i+1)
		}
	}
	if code, at := plain.Code(nil); code != 0 || at != -1 {
		t.Error("nil:", code, at)
	}
	if code, at := plain.Code(errors.New("other")); code != -1 || at != -1 {
		t.Error("another one:", code, at)
	}
}
