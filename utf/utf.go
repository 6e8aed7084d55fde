// Package utf is layer 1, runes in bytes: see shared/doc/01-utf.md.
package utf

import "unicode/utf8"

// Take: see P1.1.
func Take(s string, at int) (rune, int) {
	if at < 0 || at >= len(s) {
		return 0, 0
	}
	c, n := lead(s[at])
	if n == 0 || n > len(s)-at {
		return 0, 0
	}
	for i := range n - 1 {
		b := s[at+1+i]
		if !goesOn(b) {
			return 0, 0
		}
		c = c<<6 | rune(b&63)
	}
	// A number in more bytes than it needs is no rune's bytes, nor is a number that is no rune.
	if size(c) != n {
		return 0, 0
	}
	return c, n
}

// Put: see P1.1.
func Put(c rune) string {
	// The conversion would put U+FFFD in the place of what is no rune.
	if size(c) == 0 {
		return ""
	}
	return string(c)
}

// Valid: see P1.2.
func Valid(s string) bool { return Bad(s) < 0 }

// Bad: see P1.2.
func Bad(s string) int {
	for at, c := range s {
		// The loop tells U+FFFD where no rune stands, but also where that rune itself stands.
		if c != utf8.RuneError {
			continue
		}
		if _, n := Take(s, at); n == 0 {
			return at
		}
	}
	return -1
}

// Edge: see P1.3.
func Edge(s string, at int) bool {
	if at < 0 || at > len(s) {
		return false
	}
	return at == 0 || at == len(s) || !goesOn(s[at])
}

// Back: see P1.3.
func Back(s string, at int) int {
	at = max(0, min(at, len(s)))
	// 0 is an edge of every text, so this ends.
	for !Edge(s, at) {
		at--
	}
	return at
}

// Runes: see P1.3.
func Runes(s string) int {
	n := 0
	// The loop passes over none but bytes that go on, also in a text that is not valid.
	for at := range s {
		if !goesOn(s[at]) {
			n++
		}
	}
	return n
}

// Lines: see P1.3.
func Lines(s string) int {
	n := 0
	// A byte 10 is always a rune of its own, also in a text that is not valid.
	for _, c := range s {
		if c == 10 {
			n++
		}
	}
	return n
}

// lead answers no bytes of a byte that is no rune's first, so that one test in Take ends it there.
func lead(b byte) (rune, int) {
	switch {
	case b < 128:
		return rune(b), 1
	case b < 192:
		return 0, 0
	case b < 224:
		return rune(b & 31), 2
	case b < 240:
		return rune(b & 15), 3
	case b < 248:
		return rune(b & 7), 4
	}
	return 0, 0
}

// size answers no bytes of what is no rune, so that Take and Put share the rule of what a rune is.
func size(c rune) int {
	switch {
	case c < 0 || c > 1114111 || c >= 55296 && c <= 57343:
		return 0
	case c < 128:
		return 1
	case c < 2048:
		return 2
	case c < 65536:
		return 3
	}
	return 4
}

func goesOn(b byte) bool { return b >= 128 && b <= 191 }
