package rules_test

import (
	"strings"
	"testing"

	"nurserypy/api"
	"nurserypy/rules"
)

// P42: operators of plain values, and of others.
func TestOperate(t *testing.T) {
	long := strings.Repeat("x", api.MaxLength-1)
	thing := &struct{ int }{}
	for _, row := range []struct {
		left     any
		operator string
		right    any
		want     any
		wrong    string
	}{
		{int64(2), "+", int64(3), int64(5), ""}, {int64(2), "-", int64(3), int64(-1), ""}, {int64(2), "*", int64(3), int64(6), ""}, {int64(-7), "//", int64(2), int64(-4), ""}, {int64(-7), "%", int64(4), int64(1), ""},
		{int64(7), "//", int64(0), nil, "ZeroDivisionError"}, {int64(1<<63 - 1), "+", int64(1), nil, "OverflowError"},
		{"a", "+", "b", "ab", ""}, {long, "+", "b", long + "b", ""}, {long, "+", "bc", nil, "OverflowError"}, {"a", "-", "b", nil, "TypeError"}, {"a", "*", int64(2), nil, "TypeError"}, {"a", "+", int64(2), nil, "TypeError"}, {int64(2), "+", "a", nil, "TypeError"},
		{true, "+", int64(1), nil, "TypeError"}, {int64(1), "-", nil, nil, "TypeError"}, {true, "*", true, nil, "TypeError"}, {thing, "+", thing, nil, "TypeError"}, {thing, "%", int64(1), nil, "TypeError"},
		{int64(1), "==", int64(1), true, ""}, {true, "==", int64(1), false, ""}, {"1", "==", int64(1), false, ""}, {nil, "==", nil, true, ""}, {nil, "==", false, false, ""}, {"a", "==", "a", true, ""}, {thing, "==", thing, true, ""},
		{int64(1), "!=", int64(1), false, ""}, {true, "!=", int64(1), true, ""}, {int64(1), "is", int64(1), true, ""}, {false, "is", int64(0), false, ""}, {"a", "is", "b", false, ""},
		{int64(1), "<", int64(2), true, ""}, {int64(2), "<", int64(2), false, ""}, {int64(2), "<=", int64(2), true, ""}, {int64(3), "<=", int64(2), false, ""}, {int64(2), ">", int64(2), false, ""}, {int64(3), ">", int64(2), true, ""}, {int64(2), ">=", int64(2), true, ""}, {int64(-3), ">=", int64(2), false, ""},
		{"a", "<", "ab", true, ""}, {"\xff", ">", "a", true, ""}, {"", ">=", "", true, ""}, {"b", "<=", "a", false, ""},
		{"a", "<", int64(1), nil, "TypeError"}, {nil, "<=", nil, nil, "TypeError"}, {true, ">", false, nil, "TypeError"}, {thing, ">=", thing, nil, "TypeError"}, {int64(1), "<", true, nil, "TypeError"},
	} {
		got, wrong := rules.Operate(row.operator, row.left, row.right)
		if wrong != row.wrong || wrong == "" && got != row.want {
			t.Errorf("%v: %v, %q", row, got, wrong)
		}
	}
}

// P42: which one is less.
func TestOrder(t *testing.T) {
	for _, row := range []struct {
		left, right any
		want        int
		wrong       string
	}{
		{int64(-1), int64(1), -1, ""}, {int64(5), int64(5), 0, ""}, {int64(1 << 62), int64(-1 << 62), 1, ""}, {"", "\x00", -1, ""}, {"a", "a", 0, ""}, {"\x80", "\x7f", 1, ""},
		{int64(1), "1", 0, "TypeError"}, {nil, nil, 0, "TypeError"}, {false, true, 0, "TypeError"},
	} {
		if got, wrong := rules.Order(row.left, row.right); got != row.want || wrong != row.wrong {
			t.Errorf("%v: %d, %q", row, got, wrong)
		}
	}
}
