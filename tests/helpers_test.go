package tests

import (
	"fmt"
	"reflect"
	"strings"
	"testing"

	"loop.example/g01383/impl"
)

// check compares the printed values, so that a nil slice is like an empty one.
func check(t *testing.T, name string, got, want any) {
	t.Helper()
	one, two := fmt.Sprint(got), fmt.Sprint(want)
	if one != two {
		t.Errorf("%s: got %s, want %s", name, one, two)
	}
}

// all makes one list of several results.
func all(list ...any) []any { return list }

func slab(x, y, wide, high int8) impl.Slab {
	return impl.Slab{X: x, Y: y, Wide: wide, High: high}
}

func cell(x, y int8) impl.Cell { return impl.Cell{X: x, Y: y} }

func square(wide, high int8, slabs ...impl.Slab) impl.Square {
	return impl.Square{Wide: wide, High: high, Slabs: slabs}
}

// text makes the text of some rows.
func text(rows ...string) string { return strings.Join(rows, "\n") + "\n" }

// read returns the square with some rows.
func read(t *testing.T, rows ...string) impl.Square {
	t.Helper()
	q, code := impl.ReadSquare(text(rows...))
	if code != impl.OK {
		t.Fatalf("ReadSquare of %q: %d", rows, code)
	}
	return q
}

// dice give the same numbers in each run.
type dice uint64

// below returns a number from 0 to n - 1.
func (d *dice) below(n int) int {
	*d = *d*6364136223846793005 + 1442695040888963407
	return int(uint64(*d>>33) % uint64(n))
}

// changed returns a text, a byte of which is replaced, added or taken away; new
// bytes are some of letters, or of the text.
func changed(d *dice, from, letters string) string {
	bytes := letters + from
	at, by := d.below(len(from)), bytes[d.below(len(bytes))]
	s := from[:at] + string(rune(by)) + from[at+d.below(2):]
	if d.below(4) == 0 {
		s = from[:at] + from[at+1:]
	}
	return s
}

// span is the memory of a slice, with its unused capacity.
type span struct{ from, to uintptr }

// spansOf returns the memory of all slices that can be reached from v.
func spansOf(v reflect.Value) []span {
	var list []span
	switch v.Kind() {
	case reflect.Interface, reflect.Pointer:
		if !v.IsNil() {
			list = spansOf(v.Elem())
		}
	case reflect.Struct:
		for i := range v.NumField() {
			list = append(list, spansOf(v.Field(i))...)
		}
	case reflect.Slice:
		if n := uintptr(v.Cap()) * v.Type().Elem().Size(); n > 0 {
			list = append(list, span{v.Pointer(), v.Pointer() + n})
		}
		for i := range v.Len() {
			list = append(list, spansOf(v.Index(i))...)
		}
	case reflect.Array:
		for i := range v.Len() {
			list = append(list, spansOf(v.Index(i))...)
		}
	}
	return list
}

// whole prints a value with the unused capacity of its slices.
func whole(v reflect.Value) string {
	switch v.Kind() {
	case reflect.Interface, reflect.Pointer:
		if v.IsNil() {
			return "nil"
		}
		return whole(v.Elem())
	case reflect.Struct:
		s := "{"
		for i := range v.NumField() {
			s += whole(v.Field(i)) + " "
		}
		return s + "}"
	case reflect.Slice:
		n := v.Len()
		v = v.Slice3(0, v.Cap(), v.Cap())
		s := fmt.Sprint(n, "[")
		for i := range v.Len() {
			s += whole(v.Index(i)) + " "
		}
		return s + "]"
	}
	return fmt.Sprint(v)
}

// checkPure calls a function twice, and fails if an argument is modified, if
// the results differ, or if a slice of the results shares memory.
func checkPure(t *testing.T, name string, args []any, call func() []any) {
	t.Helper()
	before := whole(reflect.ValueOf(args))
	one, two := call(), call()
	if after := whole(reflect.ValueOf(args)); after != before {
		t.Errorf("%s: its arguments were %s, and are %s", name, before, after)
	}
	check(t, name+" called again", two, one)
	var list []span
	for _, v := range [][]any{args, one, two} {
		for _, x := range v {
			if x != nil {
				list = append(list, spansOf(reflect.ValueOf(x))...)
			}
		}
	}
	for i, a := range list {
		for _, b := range list[:i] {
			if a.from < b.to && b.from < a.to {
				t.Errorf("%s: slices share memory", name)
				return
			}
		}
	}
}

// roomy returns a list with unused capacity, in which something is kept.
func roomy[T any](list []T, kept T) []T {
	room := append(make([]T, 0, len(list)+4), list...)
	for i := len(list); i < cap(room); i++ {
		room[:cap(room)][i] = kept
	}
	return room
}

// checkRead checks that a text is read just if it is one, and that what has been
// read has this text. It returns 1 for a text that is one, and 0 otherwise.
func checkRead[T any](t *testing.T, s string, isText bool, read func(string) (T, int64), textOf func(T) string) int {
	t.Helper()
	got, code := read(s)
	if !isText {
		var nothing T
		check(t, fmt.Sprintf("reading %q", s), all(got, code), all(nothing, 5))
		return 0
	}
	check(t, fmt.Sprintf("the text of what has been read of %q", s), all(textOf(got), code), all(s, 0))
	return 1
}
