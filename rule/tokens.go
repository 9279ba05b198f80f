package rule

import (
	"slices"
	"strings"

	"idiom/api"
	"idiom/runes"
)

// symbols is the tokens of several bytes that are neither words nor numbers; where one begins another one, the longer one stands first.
var symbols = [...]string{"...", "..", "!=", moreMark, intsMark, decsMark}

// scanner goes through a text token by token.
type scanner struct {
	text   string
	at     int    // where the token begins; the length of the text, behind the last one
	token  string // empty behind the last one
	joined bool   // there is no white space between the token and the one ahead of it
}

// fault is the value of the panic by which the parser reports an error.
type fault struct {
	at    int
	errno api.Errno
}

// next goes on to the next token.
func (s *scanner) next() {
	end := s.at + len(s.token)
	s.at = end + spaceSize(s.text[end:])
	s.joined = s.at == end
	s.token = s.text[s.at : s.at+tokenSize(s.text[s.at:])]
}

// take returns the token, and goes on to the next one.
func (s *scanner) take() string {
	token := strings.Clone(s.token)
	s.next()
	return token
}

// accept tells whether the token is one of these, and goes on to the next one if it is.
func (s *scanner) accept(tokens ...string) bool {
	if !slices.Contains(tokens, s.token) {
		return false
	}
	s.next()
	return true
}

// require rejects the token if it is not permitted.
func (s *scanner) require(permitted bool) {
	if !permitted {
		panic(fault{s.at, api.ErrRule})
	}
}

// leaveRoom rejects the token, with which something begins, if there are as many of its kind already as there may be.
func (s *scanner) leaveRoom(count, most int) {
	if count >= most {
		panic(fault{s.at, api.ErrFull})
	}
}

// spaceSize is how many bytes of white space s begins with.
func spaceSize(s string) int {
	for at, r := range s {
		if !runes.Space(r) {
			return at
		}
	}
	return len(s)
}

// tokenSize is of how many bytes the token is with which s begins.
func tokenSize(s string) int {
	for _, symbol := range symbols {
		if strings.HasPrefix(s, symbol) {
			return len(symbol)
		}
	}
	switch {
	case s == "":
		return 0
	case isDigit(s[0]):
		return runSize(s, isDigit)
	case isLetter(s[0]):
		return runSize(s, isLetter)
	}
	return 1
}

// runSize is how many bytes of one kind s begins with.
func runSize(s string, isKind func(b byte) bool) int {
	for at := range len(s) {
		if !isKind(s[at]) {
			return at
		}
	}
	return len(s)
}

func isDigit(b byte) bool {
	return '0' <= b && b <= '9'
}

func isLetter(b byte) bool {
	return 'a' <= b && b <= 'z'
}

// isDigits tells whether a token consists of digits.
func isDigits(token string) bool {
	return token != "" && isDigit(token[0])
}
