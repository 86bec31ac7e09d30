package tests

import (
	"fmt"
	"reflect"
	"slices"
	"strings"
	"testing"
)

// aCall is a call of a function of the program, for checks that are the same for all functions.
type aCall struct {
	name      string
	function  any
	arguments []any
}

func (c aCall) results() []reflect.Value {
	values := []reflect.Value{}
	for _, argument := range c.arguments {
		values = append(values, reflect.ValueOf(argument))
	}
	return reflect.ValueOf(c.function).Call(values)
}

// fails reports whether the last result is false and all others are zero values.
func (c aCall) fails() bool {
	return !slices.ContainsFunc(c.results(), func(v reflect.Value) bool { return !isZero(v) })
}

func (c aCall) succeeds() bool {
	results := c.results()
	return results[len(results)-1].Bool()
}

// isZero differs from reflect.Value.IsZero in that an empty slice is zero.
func isZero(v reflect.Value) bool {
	switch v.Kind() {
	case reflect.Slice:
		return v.Len() == 0
	case reflect.Struct:
		for i := range v.NumField() {
			if !isZero(v.Field(i)) {
				return false
			}
		}
		return true
	}
	return v.IsZero()
}

// withSpareRoom returns a copy of a value, all slices of which have elements behind their ends,
// so that a function that appends to an argument changes these.
func withSpareRoom(v reflect.Value) reflect.Value {
	copied := reflect.New(v.Type()).Elem()
	switch v.Kind() {
	case reflect.Slice:
		roomy := reflect.MakeSlice(v.Type(), v.Len()+2, v.Len()+2)
		for i := range v.Len() {
			roomy.Index(i).Set(withSpareRoom(v.Index(i)))
		}
		copied.Set(roomy.Slice(0, v.Len()))
	case reflect.Struct:
		for i := range v.NumField() {
			copied.Field(i).Set(withSpareRoom(v.Field(i)))
		}
	default:
		copied.Set(v)
	}
	return copied
}

// contentOf writes all that a value can reach, elements behind the ends of slices included.
func contentOf(v reflect.Value) string {
	switch v.Kind() {
	case reflect.Slice:
		text := &strings.Builder{}
		fmt.Fprint(text, v.Len(), "[")
		for i := range v.Cap() {
			text.WriteString(contentOf(v.Slice(0, v.Cap()).Index(i)) + " ")
		}
		return text.String() + "]"
	case reflect.Struct:
		text := ""
		for i := range v.NumField() {
			text += contentOf(v.Field(i)) + ";"
		}
		return text
	}
	return fmt.Sprint(v)
}

// memory is that of a slice, elements behind its end included.
type memory struct{ begin, end uintptr }

func memoriesOf(v reflect.Value) []memory {
	found := []memory{}
	switch v.Kind() {
	case reflect.Slice:
		if v.Cap() == 0 {
			return found
		}
		size := uintptr(v.Cap()) * v.Type().Elem().Size()
		found = append(found, memory{v.Pointer(), v.Pointer() + size})
		for i := range v.Cap() {
			found = append(found, memoriesOf(v.Slice(0, v.Cap()).Index(i))...)
		}
	case reflect.Struct:
		for i := range v.NumField() {
			found = append(found, memoriesOf(v.Field(i))...)
		}
	}
	return found
}

// someOverlap reports whether two of a list of memories overlap, where none is empty.
func someOverlap(list []memory) bool {
	list = slices.Clone(list)
	slices.SortFunc(list, func(a, b memory) int {
		if a.begin < b.begin {
			return -1
		}
		return 1
	})
	for k := range list {
		if k > 0 && list[k].begin < list[k-1].end {
			return true
		}
	}
	return false
}

// checkMemory checks that a call changes no argument, that it has the same results when it is
// made again, and that no result shares memory with an argument or with another result.
func checkMemory(t *testing.T, c aCall) {
	t.Helper()
	roomy := aCall{name: c.name, function: c.function}
	before, memories := "", []memory{}
	for _, argument := range c.arguments {
		v := withSpareRoom(reflect.ValueOf(argument))
		roomy.arguments = append(roomy.arguments, v.Interface())
		before += contentOf(v)
		memories = append(memories, memoriesOf(v)...)
	}
	first, second := roomy.results(), roomy.results()
	after := ""
	for _, argument := range roomy.arguments {
		after += contentOf(reflect.ValueOf(argument))
	}
	if before != after {
		t.Errorf("%s changes its arguments %v to %v", c.name, c.arguments, roomy.arguments)
	}
	for k := range first {
		if fmt.Sprint(first[k]) != fmt.Sprint(second[k]) {
			t.Errorf("%s of %v returns %v and then %v", c.name, c.arguments, first[k], second[k])
		}
		memories = append(memories, memoriesOf(first[k])...)
		memories = append(memories, memoriesOf(second[k])...)
	}
	if someOverlap(memories) {
		t.Errorf("the results of %s of %v share memory", c.name, c.arguments)
	}
}

// TestTheChecksThemselves: a check that finds nothing would let all pass.
func TestTheChecksThemselves(t *testing.T) {
	shared := []int{1, 2, 3}
	for _, c := range []struct {
		list []any
		want bool
	}{
		{[]any{shared, shared}, true}, {[]any{shared[:1], shared[1:]}, true}, {[]any{shared[:1:1], shared[1:]}, false},
		{[]any{[][]int{shared, {1}}, shared[2:]}, true}, {[]any{[][]int{{1}, {2}}, shared}, false},
		{[]any{shared, shared[:0]}, true}, {[]any{shared, shared[:0:0]}, false},
		{[]any{struct{ A, B []int }{shared, shared[1:]}}, true},
	} {
		memories := []memory{}
		for _, v := range c.list {
			memories = append(memories, memoriesOf(reflect.ValueOf(v))...)
		}
		if someOverlap(memories) != c.want {
			t.Error("overlap", c.list)
		}
	}
	roomy := withSpareRoom(reflect.ValueOf(shared))
	before := contentOf(roomy)
	_ = append(roomy.Interface().([]int), 7)
	if before == contentOf(roomy) {
		t.Error("a number behind the end is not seen", before)
	}
	for _, v := range []any{0, "", false, []int{}, []int(nil), struct{ A []int }{[]int{}}} {
		if !isZero(reflect.ValueOf(v)) {
			t.Error("zero", v)
		}
	}
	for _, v := range []any{1, "a", true, []int{0}, struct{ A []int }{[]int{0}}, struct{ A int }{1}} {
		if isZero(reflect.ValueOf(v)) {
			t.Error("not zero", v)
		}
	}
}
