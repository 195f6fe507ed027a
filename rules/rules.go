// Package rules: what the language says wherever its values lie: walk, vm and small go by it. A text beside an answer is what
// is to be raised; it is empty, if nothing is wrong.
package rules

import (
	"strings"

	"nurserypy/api"
)

// What goes wrong raises one of these.
const (
	NameError      = "NameError"
	TypeError      = "TypeError"
	IndexError     = "IndexError"
	KeyError       = "KeyError"
	ValueError     = "ValueError"
	ZeroError      = "ZeroDivisionError"
	OverflowError  = "OverflowError"
	RecursionError = "RecursionError"
)

// Allowed tells whether a run may have this input and this fuel.
func Allowed(input []string, fuel int) bool {
	for _, line := range input {
		if len(line) > api.MaxLength {
			return false
		}
	}
	return len(input) <= api.MaxInput && fuel >= 0 && fuel <= api.MaxFuel
}

// Builtins are the names that have a value from the beginning.
func Builtins() []string {
	return []string{"len", "str", "push", "pop", "keys", "id", "range", "input", "print", "collect"}
}

// Takes tells whether a builtin takes so many arguments.
func Takes(builtin string, arguments int) bool {
	switch builtin {
	case "print":
		return true
	case "input":
		return arguments == 0
	case "push":
		return arguments == 2
	}
	return arguments == 1
}

// Fits: a text, list or dict has at most so many bytes or elements.
func Fits(n int) (wrong string) {
	if n > api.MaxLength {
		return OverflowError
	}
	return ""
}

// Nests: a list or dict is at most so deep in what is told or compared.
func Nests(deep int) (wrong string) {
	if deep > api.MaxNest {
		return RecursionError
	}
	return ""
}

// Place that an index tells, in a list or str of so many.
func Place(index int64, among int) (place int, wrong string) {
	if index < 0 {
		index += int64(among)
	}
	if index < 0 || index >= int64(among) {
		return 0, IndexError
	}
	return int(index), ""
}

// Counted: how many ints there are from 0 on below one.
func Counted(end int64) (count int, wrong string) {
	if end > api.MaxLength {
		return 0, OverflowError
	}
	return int(max(end, 0)), ""
}

// Line that is printed behind so many bytes.
func Line(texts []string, behind int) (line, wrong string) {
	line = strings.Join(texts, " ") + "\n"
	if behind+len(line) > api.MaxOutput {
		return "", OverflowError
	}
	return line, ""
}

// Joined: elements with commas between, given up as soon as they are too long: what else they hold does not matter then.
func Joined(among int, element func(int) string) (text, wrong string) {
	var out strings.Builder
	for n := range among {
		if n > 0 {
			out.WriteString(", ")
		}
		out.WriteString(element(n))
		if wrong := Fits(out.Len()); wrong != "" {
			return "", wrong
		}
	}
	return out.String(), ""
}
