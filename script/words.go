package script

import (
	"strconv"
	"strings"

	"quorate/api"
)

const (
	quote      = '"'
	backslash  = '\\'
	hexMark    = 'x'
	blanks     = " \t"
	firstPlain = 32 // from here to lastPlain a byte stands for itself in a string
	lastPlain  = 126
	hexDigits  = "0123456789abcdef"
	hexBase    = 16
	tens       = 10
)

// word of a line; of a string what it stands for, without its quotes.
type word struct {
	text   string
	quoted bool
}

func isBlank(r rune) bool { return r == ' ' || r == '\t' }

// takeWord takes the word at the front of a text that does not begin with a blank: the word, and what is behind it.
func takeWord(text string) (word, string, bool) {
	if text[0] == quote {
		value, behind, ok := takeString(text)
		ended := behind == "" || isBlank(rune(behind[0]))
		return word{value, true}, behind, ok && ended
	}
	for at, r := range text {
		if isBlank(r) {
			return word{text: text[:at]}, text[at:], true
		}
		if r == quote {
			return word{}, "", false
		}
	}
	return word{text: text}, "", true
}

// Where in a string its reading stands.
const (
	atStart = iota
	inside
	behindBackslash
	behindHexMark
	behindHexDigit
)

// takeString takes the string at the front of a text, in whatever form: what it stands for, and what is behind it.
func takeString(text string) (string, string, bool) {
	var value []byte
	state, high := atStart, 0
	for at, r := range text {
		digit := strings.IndexRune(hexDigits, r)
		switch {
		case state == atStart && r == quote:
			state = inside
		case state == inside && r == quote:
			return string(value), text[at+1:], true
		case state == inside && r == backslash:
			state = behindBackslash
		case state == inside && firstPlain <= r && r <= lastPlain:
			value = append(value, byte(r))
		case state == behindBackslash && (r == quote || r == backslash):
			value = append(value, byte(r))
			state = inside
		case state == behindBackslash && r == hexMark:
			state = behindHexMark
		case state == behindHexMark && digit >= 0:
			state, high = behindHexDigit, digit
		case state == behindHexDigit && digit >= 0:
			value = append(value, byte(hexBase*high+digit))
			state = inside
		default:
			return "", "", false
		}
	}
	return "", "", false
}

// putString appends a string in its own form.
func putString(b []byte, s string) []byte {
	b = append(b, quote)
	for i := range len(s) {
		switch c := s[i]; {
		case c == quote || c == backslash:
			b = append(b, backslash, c)
		case c < firstPlain || c > lastPlain:
			b = append(b, backslash, hexMark, hexDigits[c/hexBase], hexDigits[c%hexBase])
		default:
			b = append(b, c)
		}
	}
	return append(b, quote)
}

// takeCount takes the count at the front of a text: the count, and what is behind its digits.
func takeCount(text string) (int, string, bool) {
	v, end := 0, len(text)
	for at, r := range text {
		if r < '0' || r > '9' {
			end = at
			break
		}
		digit := int(r - '0')
		if at > 0 && v == 0 || v > (api.MaxCount-digit)/tens {
			return 0, "", false
		}
		v = tens*v + digit
	}
	return v, text[end:], end > 0
}

// putCounts appends counts with a byte between two of them.
func putCounts(b []byte, between byte, counts ...int) []byte {
	for i, v := range counts {
		if i > 0 {
			b = append(b, between)
		}
		b = strconv.AppendInt(b, int64(v), tens)
	}
	return b
}

// wordReader hands out a line's words one by one. What is not as it is asked for spoils the line, which is told once, by done: so no step hands on how it went.
type wordReader struct {
	words  []word
	spoilt bool
}

func readWords(line string) *wordReader {
	r := &wordReader{}
	for rest := strings.TrimLeft(line, blanks); rest != ""; rest = strings.TrimLeft(rest, blanks) {
		w, behind, ok := takeWord(rest)
		if !ok {
			return &wordReader{spoilt: true}
		}
		r.words = append(r.words, w)
		rest = behind
	}
	return r
}

// done tells whether all words were as they were asked for, and none is left.
func (r *wordReader) done() bool { return !r.spoilt && len(r.words) == 0 }

// next is the next word, a string or none as asked for.
func (r *wordReader) next(quoted bool) string {
	if len(r.words) == 0 || r.words[0].quoted != quoted {
		r.spoilt = true
		return ""
	}
	w := r.words[0]
	r.words = r.words[1:]
	return w.text
}

func (r *wordReader) literal(wanted string) {
	if r.next(false) != wanted {
		r.spoilt = true
	}
}

// keyword is the number that the next word has among those known.
func (r *wordReader) keyword(known map[string]int) int {
	number, ok := known[r.next(false)]
	if !ok {
		r.spoilt = true
	}
	return number
}

func (r *wordReader) count() int {
	v, behind, ok := takeCount(r.next(false))
	if !ok || behind != "" {
		r.spoilt = true
	}
	return v
}

// counts are all words that are left.
func (r *wordReader) counts() []int {
	var l []int
	for len(r.words) > 0 && !r.spoilt {
		l = append(l, r.count())
	}
	return l
}
