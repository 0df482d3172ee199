package tests

import (
	"reflect"
	"strings"
	"testing"

	"loop.example/g00070/impl"
)

// with is the same arguments with another one at a place.
func (s some) with(at int, v reflect.Value) some {
	c := append(some{}, s...)
	c[at] = v
	return c
}

// Each number that is an argument: all combinations of the least, the greatest,
// and some between.
func TestAllAtTheEndsOfNumbers(t *testing.T) {
	d := dice(284)
	calls := rightCalls(t)
	for _, name := range allNames() {
		args := calls[name]
		all := []some{args}
		for i, v := range args {
			if v.Kind() != reflect.Int {
				continue
			}
			var more []some
			for _, one := range all {
				for _, n := range []int{leastInt, -1, 0, 1, 2, mostInt} {
					more = append(more, one.with(i, reflect.ValueOf(n)))
				}
			}
			all = append(all, more...)
		}
		for _, one := range all[1:] {
			called(t, &d, name, one)
		}
	}
}

// Each text that is an argument: odd ones, each byte alone, and each byte at
// some places of a right text.
func TestAllAtAnyBytes(t *testing.T) {
	d := dice(285)
	texts := append([]string{strings.Repeat("a", impl.MaxText), strings.Repeat("(", impl.MaxText), strings.Repeat("{ ", 20000), strings.Repeat("\n", 201)}, allTexts...)
	for n := range 256 {
		texts = append(texts, string([]byte{byte(n)}))
	}
	asked := 0
	calls := rightCalls(t)
	for _, name := range allNames() {
		args := calls[name]
		for i, v := range args {
			if v.Kind() != reflect.String {
				continue
			}
			own := texts
			for n := range 256 {
				at := d.roll(v.Len() + 1)
				own = append(own, v.String()[:at]+string([]byte{byte(n)})+v.String()[at:])
			}
			for _, text := range own {
				called(t, &d, name, args.with(i, reflect.ValueOf(text)))
			}
			asked++
		}
	}
	if asked < 14 {
		t.Error("only", asked)
	}
}

// wrongLeaves is what a number, a text, a flag within an argument may be, too.
func wrongLeaves(v reflect.Value) []reflect.Value {
	switch v.Kind() {
	case reflect.Int:
		n := int(v.Int())
		return valuesIn(n+1, n-1, -1, leastInt, mostInt)
	case reflect.Float64:
		return valuesIn(nan, negZero, -inf, 0.5)
	case reflect.String:
		return valuesIn("", "let", "a", "\xff{", v.String()+"x")
	case reflect.Bool:
		return valuesIn(!v.Bool())
	}
	return nil
}

func valuesIn[T any](list ...T) []reflect.Value {
	var all []reflect.Value
	for _, one := range list {
		all = append(all, reflect.ValueOf(one))
	}
	return all
}

// wrongLists is what a list within an argument may be, too: none, one that has
// something more, and one that has its last, or first, no more or once again.
func wrongLists(v reflect.Value) []reflect.Value {
	n, of := v.Len(), v.Type()
	none, more := reflect.Zero(of), reflect.Append(copied(v), reflect.Zero(of.Elem()))
	if n == 0 {
		return []reflect.Value{none, more}
	}
	return []reflect.Value{none, more, copied(v).Slice(0, n-1), copied(v).Slice(1, n), reflect.Append(copied(v), copied(v.Index(0))), reflect.Append(copied(v), copied(v.Index(n-1)))}
}

// Each number, text, flag and list in all that is handed in is another one, one
// at a time.
func TestAllAtOneThingWrong(t *testing.T) {
	d := dice(286)
	asked := 0
	calls := rightCalls(t)
	for _, name := range allNames() {
		args := calls[name]
		for i := range args {
			whole := reflect.New(args[i].Type()).Elem()
			whole.Set(copied(args[i]))
			eachIn(whole, false, func(v reflect.Value) {
				was := reflect.New(v.Type()).Elem()
				was.Set(v)
				wrong := wrongLeaves(v)
				if v.Kind() == reflect.Slice {
					wrong = wrongLists(v)
				}
				for _, other := range wrong {
					v.Set(other)
					called(t, &d, name, args.with(i, whole))
					asked++
				}
				v.Set(was)
			})
			if !alike(whole, args[i], false) {
				t.Fatal("the argument is not as it was", name, i)
			}
		}
	}
	if asked < 30000 {
		t.Error("only", asked)
	}
}

// Each list that is an argument is none, or has as many of one thing as its
// limit may be, and more.
func TestAllAtLongLists(t *testing.T) {
	d := dice(287)
	calls := rightCalls(t)
	for _, name := range allNames() {
		args := calls[name]
		for i, v := range args {
			if v.Kind() != reflect.Slice {
				continue
			}
			one := reflect.Zero(v.Type().Elem())
			if v.Len() > 0 {
				one = v.Index(0)
			}
			for _, n := range []int{0, 1, 2, impl.MaxBeats, impl.MaxBufs, impl.MaxBufs + 1, impl.MaxCmds, impl.MaxCmds + 1, impl.MaxEdges, impl.MaxEdges + 1, impl.MaxMoves + 1, impl.MaxPicks, impl.MaxPicks + 1} {
				long := reflect.MakeSlice(v.Type(), n, n)
				for at := range n {
					long.Index(at).Set(copied(one))
				}
				called(t, &d, name, args.with(i, long))
			}
		}
	}
}
