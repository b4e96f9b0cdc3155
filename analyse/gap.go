package analyse

import (
	"slices"
	"strconv"
	"strings"

	"weirgate/address"
	"weirgate/api"
)

// gap returns an address that a pattern matches, and none of others. For each number of parts it is enough to try one address, whose words nobody names, as far as the pattern leaves a choice: a part that matches such a word matches all that the pattern does, so who matches this address matches all of the same length.
func gap(p string, by []string) (string, bool) {
	words := strings.Split(p, "/")
	open := words[len(words)-1] == "**"
	if open {
		words = words[:len(words)-1]
	}
	named := namedWords(by)
	// unnamed returns a word that is in no other pattern, with a given ending.
	unnamed := func(ending string) string {
		for n := 0; ; n++ {
			if w := "w" + strconv.Itoa(n) + ending; !named[w] {
				return w
			}
		}
	}
	for i, w := range words {
		if ending, ok := strings.CutPrefix(w, "*"); ok {
			words[i] = unnamed(ending)
		}
	}
	for parts := range api.MaxParts + 1 {
		if parts < len(words)-1 || parts > len(words)-1 && !open {
			continue
		}
		for len(words)-1 < parts {
			words = append(words, unnamed(""))
		}
		addr := strings.Join(words, "/")
		if !slices.ContainsFunc(by, func(q string) bool { return address.Match(q, addr) }) {
			return addr, true
		}
	}
	return "", false
}

// namedWords returns all words of patterns.
func namedWords(by []string) map[string]bool {
	named := map[string]bool{}
	for _, q := range by {
		for _, w := range strings.Split(q, "/") {
			named[w] = true
		}
	}
	return named
}
