package tests

import (
	"fmt"
	"reflect"
	"slices"
	"strconv"
	"strings"
	"sync"
	"testing"
)

// sentinel fills the unused capacity of arguments, and results once they have been looked at.
const sentinel = 77

// spare is the unused capacity behind each slice of an argument.
const spare = 3

// guarded returns a deep copy of a value whose slices have unused capacity, filled with the sentinel.
func guarded(v reflect.Value) reflect.Value {
	out := reflect.New(v.Type()).Elem()
	switch v.Kind() {
	case reflect.Slice:
		out.Set(reflect.MakeSlice(v.Type(), v.Len()+spare, v.Len()+spare))
		for i := range v.Len() {
			out.Index(i).Set(guarded(v.Index(i)))
		}
		for i := v.Len(); i < out.Len(); i++ {
			fill(out.Index(i))
		}
		out.SetLen(v.Len())
	case reflect.Struct:
		for i := range v.NumField() {
			out.Field(i).Set(guarded(v.Field(i)))
		}
	default:
		out.Set(v)
	}
	return out
}

// fill overwrites all memory of a value that a slice leads to, the unused capacity included, and numbers with the sentinel.
func fill(v reflect.Value) {
	switch v.Kind() {
	case reflect.Slice:
		whole := v.Slice(0, v.Cap())
		for i := range whole.Len() {
			fill(whole.Index(i))
		}
	case reflect.Struct:
		for i := range v.NumField() {
			fill(v.Field(i))
		}
	case reflect.Int64:
		if v.CanSet() {
			v.SetInt(sentinel)
		}
	}
}

// shown is the text of a value in which nil and empty slices are equal; with whole, it tells the unused capacity as well.
func shown(v reflect.Value, whole bool) string {
	var text strings.Builder
	show(&text, v, whole)
	return text.String()
}

func show(text *strings.Builder, v reflect.Value, whole bool) {
	switch v.Kind() {
	case reflect.Slice:
		text.WriteString(strconv.Itoa(v.Len()) + "[")
		if whole {
			v = v.Slice(0, v.Cap())
		}
		for i := range v.Len() {
			show(text, v.Index(i), whole)
			text.WriteByte(' ')
		}
		text.WriteByte(']')
	case reflect.Struct:
		text.WriteByte('{')
		for i := range v.NumField() {
			show(text, v.Field(i), whole)
			text.WriteByte(' ')
		}
		text.WriteByte('}')
	case reflect.Int64:
		text.WriteString(strconv.FormatInt(v.Int(), 10))
	case reflect.String:
		text.WriteString(strconv.Quote(v.String()))
	default:
		fmt.Fprint(text, v.Interface())
	}
}

func shownAll(list []reflect.Value, whole bool) string {
	var text strings.Builder
	for _, v := range list {
		show(&text, v, whole)
		text.WriteString(", ")
	}
	return text.String()
}

// block is the memory of a slice.
type block struct{ begin, end uintptr }

func blocksOf(v reflect.Value) []block {
	var out []block
	switch v.Kind() {
	case reflect.Slice:
		if v.Cap() > 0 {
			begin := v.Pointer()
			out = append(out, block{begin, begin + uintptr(v.Cap())*v.Type().Elem().Size()})
		}
		for i := range v.Len() {
			out = append(out, blocksOf(v.Index(i))...)
		}
	case reflect.Struct:
		for i := range v.NumField() {
			out = append(out, blocksOf(v.Field(i))...)
		}
	}
	return out
}

func blocksOfAll(list []reflect.Value) []block {
	var out []block
	for _, v := range list {
		out = append(out, blocksOf(v)...)
	}
	return out
}

func overlaps(a, b block) bool { return a.begin < b.end && b.begin < a.end }

// sharing tells what memory a result shares with an argument or within itself.
func sharing(args, results []reflect.Value) string {
	mine, given := blocksOfAll(results), blocksOfAll(args)
	for i, b := range mine {
		for _, g := range given {
			if overlaps(b, g) {
				return "a result shares memory with an argument"
			}
		}
		for _, other := range mine[:i] {
			if overlaps(b, other) {
				return "two slices of the result share memory"
			}
		}
	}
	return ""
}

// isZero reports whether a value is a zero value, where an empty slice is one as well.
func isZero(v reflect.Value) bool {
	switch v.Kind() {
	case reflect.Slice:
		return v.Len() == 0
	case reflect.Struct:
		for i := range v.NumField() {
			if !isZero(v.Field(i)) {
				return false
			}
		}
		return true
	}
	return v.IsZero()
}

// zeroBesideError tells whether all is zero beside an error, and beside false. A function with two results or more tells a code in the last one.
func zeroBesideError(results []reflect.Value) bool {
	last := len(results) - 1
	if last < 1 {
		return true
	}
	isFalse := func(v reflect.Value) bool { return v.Kind() == reflect.Bool && !v.Bool() }
	if results[last].Int() == 0 && !slices.ContainsFunc(results[:last], isFalse) {
		return true
	}
	for _, v := range results[:last] {
		if !isZero(v) {
			return false
		}
	}
	return true
}

func invoke(t *testing.T, name string, fn reflect.Value, args []reflect.Value) (results []reflect.Value) {
	t.Helper()
	defer func() {
		if p := recover(); p != nil {
			t.Errorf("%s(%s) panics: %v", name, shownAll(args, false), p)
			results = nil
		}
	}()
	return fn.Call(args)
}

// called calls a function, checks all that the document's conventions say of each call, and returns the text of the results.
func called(t *testing.T, name string, fn any, args ...any) string {
	t.Helper()
	f := reflect.ValueOf(fn)
	plain := make([]reflect.Value, len(args))
	given := make([]reflect.Value, len(args))
	for i, arg := range args {
		plain[i] = reflect.ValueOf(arg)
		given[i] = guarded(plain[i])
	}
	before := shownAll(given, true)
	complain := func(what string) {
		t.Helper()
		t.Errorf("%s(%s): %s", name, shownAll(plain, false), what)
	}
	results := invoke(t, name, f, given)
	if results == nil {
		return "panic"
	}
	answer := shownAll(results, false)
	if shownAll(given, true) != before {
		complain("an argument is modified")
	}
	if what := sharing(given, results); what != "" {
		complain(what)
	}
	if !zeroBesideError(results) {
		complain("there is something beside an error, or beside false: " + answer)
	}
	for _, v := range results {
		fill(v)
	}
	if shownAll(given, true) != before {
		complain("writing to the result changes an argument")
	}
	if again := shownAll(invoke(t, name, f, given), false); again != answer {
		complain("a second call returns " + again + ", the first one " + answer)
	}
	if other := shownAll(invoke(t, name, f, plain), false); other != answer {
		complain("equal arguments return " + other + " and " + answer)
	}
	return answer
}

// wanted is the text of results that are expected.
func wanted(results ...any) string {
	var values []reflect.Value
	for _, r := range results {
		values = append(values, reflect.ValueOf(r))
	}
	return shownAll(values, false)
}

// expect calls a function and compares its results with those that are expected; nil stands for an empty list.
func expect(t *testing.T, name string, fn any, args, results []any) {
	t.Helper()
	f := reflect.TypeOf(fn)
	args, results = typed(args, f.In), typed(results, f.Out)
	if got, want := called(t, name, fn, args...), wanted(results...); got != want {
		t.Errorf("%s(%s): got %s want %s", name, wanted(args...), got, want)
	}
}

// typed gives numbers and nil the types of a function's arguments or results.
func typed(list []any, kind func(int) reflect.Type) []any {
	out := make([]any, len(list))
	for i, v := range list {
		if v == nil {
			out[i] = reflect.Zero(kind(i)).Interface()
		} else {
			out[i] = reflect.ValueOf(v).Convert(kind(i)).Interface()
		}
	}
	return out
}

// function is an exported function, and one that tells in another way what it should return, with the same signature.
type function struct {
	name  string
	fn    any
	model any
}

// compare calls a function, checks the conventions, and compares its results with those of its model.
func (f function) compare(t *testing.T, args ...any) {
	t.Helper()
	values := make([]reflect.Value, len(args))
	for i, arg := range args {
		values[i] = reflect.ValueOf(arg)
	}
	want := shownAll(reflect.ValueOf(f.model).Call(values), false)
	if got := called(t, f.name, f.fn, args...); got != want {
		t.Errorf("%s(%s): got %s want %s", f.name, shownAll(values, false), got, want)
	}
}

// pools are the arguments to choose from, by the types of parameters.
type pools map[reflect.Type][]any

// compareAll compares a function with its model for all choices of arguments.
func (f function) compareAll(t *testing.T, from pools) {
	t.Helper()
	kind := reflect.TypeOf(f.fn)
	args := make([]any, kind.NumIn())
	var choose func(i int)
	choose = func(i int) {
		if t.Failed() {
			return
		}
		if i == len(args) {
			f.compare(t, args...)
			return
		}
		for _, arg := range from[kind.In(i)] {
			args[i] = arg
			choose(i + 1)
		}
	}
	choose(0)
}

// wrongCall is a call that returns an error, and zero values beside it.
type wrongCall struct {
	name string
	fn   any
	args []any
	code int
	zero []any
}

func returnErrors(t *testing.T, calls []wrongCall) {
	t.Helper()
	for _, c := range calls {
		expect(t, c.name, c.fn, c.args, append(c.zero, c.code))
	}
}

// agreeTogether asks for the same answers from several goroutines at once.
func agreeTogether(t *testing.T, answers func() []any) {
	t.Helper()
	want := wanted(answers()...)
	var group sync.WaitGroup
	for range 8 {
		group.Go(func() {
			for range 5 {
				if got := wanted(answers()...); got != want {
					t.Errorf("together: got %s want %s", got, want)
				}
			}
		})
	}
	group.Wait()
}

// TestConventionChecks tells that the checks of this file find what they are for.
func TestConventionChecks(t *testing.T) {
	backing := []int64{1, 2, 3, 4}
	list := reflect.ValueOf([]int64{1, 2})
	copied := guarded(list)
	if copied.Cap() != 2+spare || shown(copied, true) != "2[1 2 77 77 77 ]" {
		t.Errorf("a guarded copy is %s", shown(copied, true))
	}
	within := []reflect.Value{reflect.ValueOf([][]int64{backing[:2], backing[2:]})}
	if sharing(nil, within) == "" {
		t.Error("capacity that two slices share is not found")
	}
	apart := []reflect.Value{reflect.ValueOf([][]int64{backing[:2:2], backing[2:]})}
	if what := sharing(nil, apart); what != "" {
		t.Errorf("slices that share nothing: %s", what)
	}
	if sharing([]reflect.Value{reflect.ValueOf(backing)}, apart) == "" {
		t.Error("memory that is shared with an argument is not found")
	}
	if zeroBesideError([]reflect.Value{list, reflect.ValueOf(int64(1))}) {
		t.Error("a result beside an error is not found")
	}
	if zeroBesideError([]reflect.Value{list, reflect.ValueOf(false), reflect.ValueOf(int64(0))}) {
		t.Error("a result beside false is not found")
	}
	if !zeroBesideError([]reflect.Value{list, reflect.ValueOf(true), reflect.ValueOf(int64(0))}) {
		t.Error("a result beside true is right")
	}
	if !zeroBesideError([]reflect.Value{reflect.ValueOf([]int64{}), reflect.ValueOf(int64(1))}) {
		t.Error("an empty list is a zero value")
	}
}
