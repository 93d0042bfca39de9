// Package place tells errors with their places, as the lists of herepath need it.
package place

import (
	"errors"

	"herepath/api"
)

// First of so many places with which something is wrong: asked tells what. The error stands bare within: a place within a place is told nowhere.
func First(count int, asked func(at int) error) error {
	for at := range count {
		if err := asked(at); err != nil {
			return &api.Fault{At: at, Err: Bare(err)}
		}
	}
	return nil
}

// Bare: an error without its place.
func Bare(err error) error {
	var f *api.Fault
	if errors.As(err, &f) {
		return f.Err
	}
	return err
}
