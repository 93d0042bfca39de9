package place_test

import (
	"errors"
	"fmt"
	"math"
	"testing"

	"herepath/api"
	"herepath/place"
)

func TestFirst(t *testing.T) {
	for count := range 6 {
		for wrong := range 8 {
			asked := []int{}
			err := place.First(count, func(at int) error {
				asked = append(asked, at)
				if at >= wrong {
					return api.ErrOrder
				}
				return nil
			})
			if len(asked) != min(count, wrong+1) {
				t.Errorf("of %d, wrong from %d on: asked of %v", count, wrong, asked)
			}
			for i, at := range asked {
				if i != at {
					t.Errorf("of %d: asked of %v", count, asked)
				}
			}
			f, ok := err.(*api.Fault)
			if wrong >= count && err != nil || wrong < count && (!ok || f.At != wrong || f.Err != api.ErrOrder) {
				t.Errorf("of %d, wrong from %d on: %#v", count, wrong, err)
			}
		}
	}
}

func TestFirstOfNone(t *testing.T) {
	for _, count := range []int{0, -1, math.MinInt} {
		if err := place.First(count, func(int) error { return api.ErrText }); err != nil {
			t.Error(count, err)
		}
	}
}

func TestFirstIsBareWithin(t *testing.T) {
	err := place.First(3, func(at int) error {
		if at == 2 {
			return &api.Fault{At: 7, Err: api.ErrBound}
		}
		return nil
	})
	if f, ok := err.(*api.Fault); !ok || f.At != 2 || f.Err != api.ErrBound {
		t.Errorf("%#v", err)
	}
}

func TestBare(t *testing.T) {
	other := errors.New("other")
	for _, want := range []error{nil, api.ErrText, api.ErrLoop, other} {
		if got := place.Bare(want); got != want {
			t.Errorf("%v: %#v", want, got)
		}
		if want == nil {
			continue
		}
		fault := &api.Fault{At: 3, Err: want}
		if got := place.Bare(fault); got != want || fault.At != 3 || fault.Err != want {
			t.Errorf("%v with a place: %#v", want, got)
		}
		if got := place.Bare(fmt.Errorf("more: %w", fault)); got != want {
			t.Errorf("%v with a place, wrapped: %#v", want, got)
		}
	}
}
