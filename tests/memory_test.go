package tests

import (
	"reflect"
	"strings"
	"testing"
)

// copyOf is a copy of a value through all its lists and texts; each list is made by a function of its own.
func copyOf(v reflect.Value, list func(v reflect.Value) reflect.Value) reflect.Value {
	to := reflect.New(v.Type()).Elem()
	switch v.Kind() {
	case reflect.Struct:
		for i := range v.NumField() {
			to.Field(i).Set(copyOf(v.Field(i), list))
		}
	case reflect.Slice:
		to.Set(list(v))
	case reflect.String:
		to.SetString(strings.Clone(v.String()))
	default:
		to.Set(v)
	}
	return to
}

// settled is a value in which a list that is empty is nil, as both are the same value.
func settled(v reflect.Value) reflect.Value {
	return copyOf(v, func(v reflect.Value) reflect.Value {
		to := reflect.Zero(v.Type())
		for i := range v.Len() {
			to = reflect.Append(to, settled(v.Index(i)))
		}
		return to
	})
}

// like says whether two values are the same.
func like[T any](a, b T) bool {
	return reflect.DeepEqual(settled(reflect.ValueOf(a)).Interface(), settled(reflect.ValueOf(b)).Interface())
}

// roomy is a value in which each list has room behind its end, with something in it that is not to be touched.
func roomy[T any](x T) T {
	var fill func(v reflect.Value) reflect.Value
	fill = func(v reflect.Value) reflect.Value {
		to := reflect.MakeSlice(v.Type(), v.Len()+3, v.Len()+3)
		for i := range v.Len() {
			to.Index(i).Set(copyOf(v.Index(i), fill))
		}
		for i := v.Len(); i < to.Len(); i++ {
			mark(to.Index(i))
		}
		return to.Slice(0, v.Len())
	}
	return copyOf(reflect.ValueOf(x), fill).Interface().(T)
}

func mark(v reflect.Value) {
	switch v.Kind() {
	case reflect.Struct:
		for i := range v.NumField() {
			mark(v.Field(i))
		}
	case reflect.Int:
		v.SetInt(77)
	case reflect.String:
		v.SetString("marked")
	}
}

// whole is a value with all of the room behind its lists.
func whole(v reflect.Value) reflect.Value {
	return copyOf(v, func(v reflect.Value) reflect.Value {
		to := reflect.MakeSlice(v.Type(), v.Cap(), v.Cap())
		for i := range v.Cap() {
			to.Index(i).Set(whole(v.Slice(0, v.Cap()).Index(i)))
		}
		return to
	})
}

// memory is where lists, with all their room, and texts of values stand.
type memory struct {
	lists [][2]uintptr
	texts [][2]uintptr
}

func (m *memory) gather(v reflect.Value) {
	switch v.Kind() {
	case reflect.Struct:
		for i := range v.NumField() {
			m.gather(v.Field(i))
		}
	case reflect.Slice:
		if from := v.Pointer(); v.Cap() > 0 {
			m.lists = append(m.lists, [2]uintptr{from, from + uintptr(v.Cap())*v.Type().Elem().Size()})
		}
		for i := range v.Len() {
			m.gather(v.Index(i))
		}
	case reflect.String:
		if text := v.String(); text != "" {
			from := uintptr(v.UnsafePointer())
			m.texts = append(m.texts, [2]uintptr{from, from + uintptr(len(text))})
		}
	}
}

func overlap(a, b [][2]uintptr) bool {
	for _, x := range a {
		for _, y := range b {
			if x[0] < y[1] && y[0] < x[1] {
				return true
			}
		}
	}
	return false
}

func many(list ...any) []any {
	return list
}

// leavesAlone says that a call changes no argument, and that what it answers shares no memory with one, nor two lists of it any.
func leavesAlone(t *testing.T, what string, arguments []any, call func() []any) {
	t.Helper()
	var given, made memory
	var before []any
	for _, x := range arguments {
		given.gather(reflect.ValueOf(x))
		before = append(before, whole(reflect.ValueOf(x)).Interface())
	}
	for _, x := range call() {
		var one memory
		one.gather(reflect.ValueOf(x))
		for _, list := range one.lists {
			if overlap([][2]uintptr{list}, made.lists) {
				t.Errorf("%s: two lists of an answer share memory", what)
			}
			made.lists = append(made.lists, list)
		}
		made.texts = append(made.texts, one.texts...)
	}
	if overlap(given.lists, made.lists) || overlap(given.texts, made.texts) {
		t.Errorf("%s: an answer shares memory with an argument", what)
	}
	for i, x := range arguments {
		if !reflect.DeepEqual(whole(reflect.ValueOf(x)).Interface(), before[i]) {
			t.Errorf("%s: an argument was changed", what)
		}
	}
}

func TestMemoryThatIsSharedIsFound(t *testing.T) {
	list := roomy([]int{1, 2})
	if cap(list) != 5 || list[:3][2] != 77 {
		t.Error("there is no room behind a list")
	}
	shares := func(arguments, answers []any) bool {
		var given, made memory
		for _, x := range arguments {
			given.gather(reflect.ValueOf(x))
		}
		for _, x := range answers {
			made.gather(reflect.ValueOf(x))
		}
		return overlap(given.lists, made.lists) || overlap(given.texts, made.texts)
	}
	text := strings.Clone("a text")
	if !shares(many(list), many(list[1:])) || !shares(many(list[:1]), many(append(list, 3)[2:])) || !shares(many(text), many(text[2:3])) {
		t.Error("what is shared is not found")
	}
	if shares(many(list, text), many([]int{1, 2}, strings.Clone(text))) {
		t.Error("what is not shared is found")
	}
	if !like([]int{}, nil) || like([]int{1}, []int{2}) || like([]int{1}, []int{1, 1}) {
		t.Error("what is the same, and is not, is not told apart")
	}
}
