// Package span: texts with their lengths ahead.
package span

import (
	"strings"

	"packtrain/api"
	"packtrain/vary"
)

// Put is a text with its length ahead. ErrLimit: it has more than MaxSpan bytes.
func Put(s string) (string, error) {
	if len(s) > api.MaxSpan {
		return "", api.ErrLimit
	}
	return vary.Put(uint64(len(s))) + s, nil
}

// Get is the text that a text begins with, and how many bytes it has with its length.
// vary's errors (Get); ErrLimit: the length is above MaxSpan; ErrMissing: there are fewer bytes.
func Get(s string) (string, int, error) {
	n, ahead, err := vary.Get(s)
	if err != nil {
		return "", 0, err
	}
	if n > api.MaxSpan {
		return "", 0, api.ErrLimit
	}
	end := ahead + int(n)
	if end > len(s) {
		return "", 0, api.ErrMissing
	}
	// A copy: a part of s would share its memory, and keep all of it.
	return strings.Clone(s[ahead:end]), end, nil
}

// All are so many texts, one behind the other, and how many bytes they have. Get's errors, with the text's number.
func All(s string, n int) ([]string, int, error) {
	// It grows as texts are found: n alone tells nothing of how many there are.
	var texts []string
	at := 0
	for i := range n {
		text, size, err := Get(s[at:])
		if err != nil {
			return nil, 0, &api.At{Err: api.Tell(err), Place: i}
		}
		texts = append(texts, text)
		at += size
	}
	return texts, at, nil
}
