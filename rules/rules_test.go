package rules

import (
	"fmt"
	"math"
	"math/rand"
	"reflect"
	"slices"
	"testing"

	"swashplate/api"
)

// changes is how often the arguments of each call are changed.
const changes = 250

// copied returns a value that shares no memory with another one; a list without elements is nil, or empty.
func copied(v reflect.Value, empty bool) reflect.Value {
	c := reflect.New(v.Type()).Elem()
	switch v.Kind() {
	case reflect.Slice:
		if v.Len() == 0 && !empty {
			return c
		}
		c.Set(reflect.MakeSlice(v.Type(), v.Len(), v.Len()))
		for i := range v.Len() {
			c.Index(i).Set(copied(v.Index(i), empty))
		}
	case reflect.Array:
		for i := range v.Len() {
			c.Index(i).Set(copied(v.Index(i), empty))
		}
	case reflect.Struct:
		for i := range v.NumField() {
			c.Field(i).Set(copied(v.Field(i), empty))
		}
	default:
		c.Set(v)
	}
	return c
}

func copiedAll(l []reflect.Value, empty bool) []reflect.Value {
	var c []reflect.Value
	for _, v := range l {
		c = append(c, copied(v, empty))
	}
	return c
}

// same reports whether values are the same, where nil is the same as an empty list.
func same(a, b []reflect.Value) bool {
	for i := range a {
		if !reflect.DeepEqual(copied(a[i], false).Interface(), copied(b[i], false).Interface()) {
			return false
		}
	}
	return len(a) == len(b)
}

// leaves returns all parts of a value that can be changed.
func leaves(v reflect.Value) []reflect.Value {
	var l []reflect.Value
	switch v.Kind() {
	case reflect.Slice:
		l = append(l, v)
		for i := range v.Len() {
			l = append(l, leaves(v.Index(i))...)
		}
	case reflect.Array:
		for i := range v.Len() {
			l = append(l, leaves(v.Index(i))...)
		}
	case reflect.Struct:
		for i := range v.NumField() {
			l = append(l, leaves(v.Field(i))...)
		}
	default:
		l = append(l, v)
	}
	return l
}

// change changes a part of a value.
func change(r *rand.Rand, v reflect.Value) {
	switch v.Kind() {
	case reflect.Bool:
		v.SetBool(!v.Bool())
	case reflect.Int:
		n := v.Int()
		l := []int64{n + 1, n - 1, n * 2, -n, 0, 1, int64(r.Intn(30)), int64(r.Intn(3000)), 1000000, 1000001, -1000001, math.MaxInt64, math.MinInt64}
		v.SetInt(l[r.Intn(len(l))])
	case reflect.Slice:
		changeList(r, v)
	}
}

func changeList(r *rand.Rand, v reflect.Value) {
	n := v.Len()
	switch r.Intn(6) {
	case 0:
		v.SetZero()
	case 1:
		v.Set(reflect.Append(v, reflect.New(v.Type().Elem()).Elem()))
	case 2:
		if n > 0 {
			v.Set(v.Slice(0, n-1))
		}
	case 3:
		if n > 0 {
			v.Set(reflect.Append(v, copied(v.Index(r.Intn(n)), false)))
		}
	case 4:
		if n > 1 {
			i := r.Intn(n - 1)
			a, b := copied(v.Index(i), false), copied(v.Index(i+1), false)
			v.Index(i).Set(b)
			v.Index(i + 1).Set(a)
		}
	default:
		if n > 0 && r.Intn(4) == 0 {
			for range 70 {
				v.Set(reflect.Append(v, copied(v.Index(r.Intn(n)), false)))
			}
		}
	}
}

// lists returns where the elements of all lists of a value lie in memory.
func lists(v reflect.Value) [][2]uintptr {
	var l [][2]uintptr
	if v.Kind() == reflect.Slice && v.Len() > 0 {
		l = append(l, [2]uintptr{v.Pointer(), v.Pointer() + uintptr(v.Len())*v.Type().Elem().Size()})
	}
	switch v.Kind() {
	case reflect.Slice, reflect.Array:
		for i := range v.Len() {
			l = append(l, lists(v.Index(i))...)
		}
	case reflect.Struct:
		for i := range v.NumField() {
			l = append(l, lists(v.Field(i))...)
		}
	}
	return l
}

// shared reports whether some of the results share memory with each other, or with arguments.
func shared(results, args []reflect.Value) bool {
	var own, given [][2]uintptr
	for _, v := range results {
		own = append(own, lists(v)...)
	}
	for _, v := range args {
		given = append(given, lists(v)...)
	}
	for i, a := range own {
		for _, b := range append(given, own[:i]...) {
			if a[0] < b[1] && b[0] < a[1] {
				return true
			}
		}
	}
	return false
}

// try calls a function; it returns what it panics with.
func try(c call, args []reflect.Value) (results []reflect.Value, panicked any) {
	defer func() { panicked = recover() }()
	return reflect.ValueOf(c.function).Call(args), nil
}

func told(args []reflect.Value) string {
	text := ""
	for _, v := range args {
		text += fmt.Sprintf("%+v; ", v.Interface())
	}
	return text[:min(len(text), 3000)]
}

func errorOf(results []reflect.Value) api.Errno { return api.Errno(results[len(results)-1].Int()) }

// violation returns which rule a call breaks with some arguments, or "".
func violation(c call, errors []api.Errno, args []reflect.Value) string {
	given := copiedAll(args, false)
	results, panicked := try(c, given)
	if panicked != nil {
		return fmt.Sprintf("P0.1: it panics: %v", panicked)
	}
	if !same(given, args) {
		return "R4: it changes its arguments"
	}
	if shared(results, given) {
		return "R4: its results share memory"
	}
	e := errorOf(results)
	if !slices.Contains(errors, e) {
		return fmt.Sprintf("it returns the error %d", e)
	}
	for i, v := range results[:len(results)-1] {
		isNumber := c.numbered && v.Kind() == reflect.Int
		if e != api.OK && !isNumber && !reflect.DeepEqual(copied(v, false).Interface(), reflect.Zero(v.Type()).Interface()) {
			return fmt.Sprintf("R2: with the error %d the result %d is %v", e, i, v.Interface())
		}
	}
	again, panicked := try(c, copiedAll(args, true))
	if panicked != nil {
		return fmt.Sprintf("P0.1: it panics with empty lists: %v", panicked)
	}
	if !same(results, again) {
		return fmt.Sprintf("P0.1, R3: %s and then %s", told(results), told(again))
	}
	return ""
}

func values(args []any) []reflect.Value {
	var l []reflect.Value
	for _, a := range args {
		l = append(l, copied(reflect.ValueOf(a), false))
	}
	return l
}

// TestP0_1AllFunctions calls all functions with the arguments of the document's examples, and with these changed in a few parts.
func TestP0_1AllFunctions(t *testing.T) {
	for name, l := range layers() {
		for _, c := range l.calls {
			t.Run(name+"."+c.name, func(t *testing.T) { testCall(t, c, l.errors) })
		}
	}
}

func testCall(t *testing.T, c call, errors []api.Errno) {
	r := rand.New(rand.NewSource(1))
	args := values(c.args)
	if results, _ := try(c, copiedAll(args, false)); results == nil || errorOf(results) != api.OK {
		t.Fatalf("it returns no OK for %s", told(args))
	}
	for range changes {
		args := values(c.args)
		for range r.Intn(4) {
			var all []reflect.Value
			for _, v := range args {
				all = append(all, leaves(v)...)
			}
			change(r, all[r.Intn(len(all))])
		}
		if rule := violation(c, errors, args); rule != "" {
			t.Fatalf("%s, for %s", rule, told(args))
		}
	}
}

// TestP0_1Nothing calls all functions with nothing at all.
func TestP0_1Nothing(t *testing.T) {
	for name, l := range layers() {
		for _, c := range l.calls {
			args := values(c.args)
			for i := range args {
				args[i].SetZero()
			}
			if rule := violation(c, l.errors, args); rule != "" {
				t.Errorf("%s.%s: %s", name, c.name, rule)
			}
		}
	}
}
