package address

import (
	"slices"
	"strings"

	"weirgate/api"
)

// Tags returns the text of a list of tags.
func Tags(l []string) (string, api.Errno) {
	for _, tag := range l {
		if !isName(tag) {
			return "", api.ErrArg
		}
	}
	sorted := slices.Compact(slices.Sorted(slices.Values(l)))
	text := strings.Join(sorted, ",")
	if len(text) > api.MaxText {
		return "", api.ErrLimit
	}
	return text, api.OK
}

// Split returns the tags of a tag list.
func Split(s string) ([]string, api.Errno) {
	if s == "" {
		return nil, api.OK
	}
	if len(s) > api.MaxText {
		return nil, api.ErrForm
	}
	l := strings.Split(s, ",")
	for i, tag := range l {
		if !isName(tag) || i > 0 && tag <= l[i-1] {
			return nil, api.ErrForm
		}
	}
	return l, api.OK
}

// HasTag reports whether a tag list has a tag.
func HasTag(s, tag string) bool {
	l, e := Split(s)
	return e == api.OK && slices.Contains(l, tag)
}
