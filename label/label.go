// Package label is layer 1: see shared/doc/01-label.md.
package label

import "marquee/api"

// Text is bytes with a label, and how many of them there may be at most.
type Text struct {
	S     string
	Label api.Level
	Most  int
}

// Right tells whether all of the levels are Low or High themselves.
func Right(l ...api.Level) bool {
	return !some(l, func(x api.Level) bool { return x != api.Low && x != api.High })
}

// Join is the lowest level to which each of them flows.
func Join(l ...api.Level) api.Level {
	if some(l, func(x api.Level) bool { return !isLow(x) }) {
		return api.High
	}
	return api.Low
}

// Meet is the highest level that flows to each of them.
func Meet(l ...api.Level) api.Level {
	if some(l, isLow) {
		return api.Low
	}
	return api.High
}

// Flows tells whether what the one level knows may come to the other one.
func Flows(from, to api.Level) bool {
	return isLow(from) || !isLow(to)
}

// Write is the text with other bytes, if the level may write it and there are not too many of them.
func (t Text) Write(s string, by api.Level) (Text, api.Errno) {
	// The level comes first: how a Low text answers must not hang on how long High's bytes are.
	if !Flows(by, t.Label) {
		return t, api.ErrLevel
	}
	if len(s) > t.Most {
		return t, api.ErrLong
	}
	t.S = s
	return t, api.OK
}

// Read is the text's bytes, if the level may read them.
func (t Text) Read(by api.Level) (string, api.Errno) {
	if !Flows(t.Label, by) {
		return "", api.ErrLevel
	}
	return t.S, api.OK
}

// Seen is what the level sees of the text.
func (t Text) Seen(by api.Level) Text {
	if !Flows(t.Label, by) {
		t.S = ""
	}
	return t
}

// Declassify is the text, from now on for all to read.
func (t Text) Declassify() Text {
	t.Label = api.Low
	return t
}

// isLow holds a level against Low alone, so that a number that is no level counts as High: nothing flows down by it.
func isLow(l api.Level) bool { return l == api.Low }

// some tells whether one of a row is what is looked for.
func some[T any](row []T, is func(T) bool) bool {
	for _, x := range row {
		if is(x) {
			return true
		}
	}
	return false
}
