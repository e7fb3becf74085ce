package tests

import (
	"fmt"
	"reflect"
	"strings"
	"testing"
)

// span is the memory that a list reaches, its spare room too.
type span struct {
	from, to uintptr
}

func spansOf(values []any) []span {
	var spans []span
	for _, v := range values {
		spans = appendSpans(spans, reflect.ValueOf(v))
	}
	return spans
}

func appendSpans(spans []span, v reflect.Value) []span {
	switch v.Kind() {
	case reflect.Struct:
		for i := range v.NumField() {
			spans = appendSpans(spans, v.Field(i))
		}
	case reflect.Slice:
		if v.Cap() > 0 {
			spans = append(spans, span{v.Pointer(), v.Pointer() + uintptr(v.Cap())*v.Type().Elem().Size()})
		}
		for i := range v.Len() {
			spans = appendSpans(spans, v.Index(i))
		}
	}
	return spans
}

// dumpOf tells all that values hold, what lies in the spare room of lists too.
func dumpOf(values []any) string {
	var out strings.Builder
	for _, v := range values {
		dumpValue(&out, reflect.ValueOf(v))
	}
	return out.String()
}

func dumpValue(out *strings.Builder, v reflect.Value) {
	switch v.Kind() {
	case reflect.Struct:
		for i := range v.NumField() {
			dumpValue(out, v.Field(i))
		}
	case reflect.Slice:
		fmt.Fprintf(out, "[%d of %d:", v.Len(), v.Cap())
		whole := v.Slice(0, v.Cap())
		for i := range whole.Len() {
			dumpValue(out, whole.Index(i))
		}
		out.WriteString("]")
	default:
		fmt.Fprintf(out, "%#v,", v.Interface())
	}
}

// checkMemory asks that a call writes into no argument, and that no list of its
// answer shares memory with an argument or with another list of the answer.
func checkMemory(t *testing.T, name string, arguments []any, call func() []any) {
	t.Helper()
	before := dumpOf(arguments)
	answers := call()
	if dumpOf(arguments) != before {
		t.Errorf("%s writes into an argument", name)
	}
	given := spansOf(arguments)
	got := spansOf(answers)
	for i, a := range got {
		for _, b := range given {
			if a.from < b.to && b.from < a.to {
				t.Errorf("%s: list %d of the answer shares memory with an argument", name, i)
			}
		}
		for j, b := range got[:i] {
			if a.from < b.to && b.from < a.to {
				t.Errorf("%s: lists %d and %d of the answer share memory", name, j, i)
			}
		}
	}
}

// roomy copies a list and leaves spare room behind it, in which an append to the
// list itself would be seen.
func roomy[T any](list []T) []T {
	out := make([]T, 0, len(list)+3)
	return append(out, list...)
}
