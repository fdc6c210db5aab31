package conf

import (
	"strconv"
	"strings"

	"periscope/api"
)

const (
	blank   = " "
	lineEnd = "\n"
)

// Lines, by their first words, in the order in which these may come.
const (
	formatLine = iota
	ruleLine
	methodLine
	hostLine
	exactLine
	prefixLine
	headLine
	hasLine
	toLine
	abortLine
	delayLine
	mirrorLine
	sampleLine
	endLine
	lineCount
	noLine = -1
)

// The lines of predicates come in the order of their kinds, so that each is as far from its kind as the first one.
const predLines = methodLine - api.PredMethod

// What may stand behind a line's first word. A text is all that is left of the line, whatever blanks it has.
const (
	aNumber  = 'n'
	aWord    = 'w'
	aText    = 't'
	someText = 's'
)

// forms has the first word of each line, and signs of what stands behind it.
var forms = [lineCount]struct {
	word   string
	behind string
}{
	{"format", "s"},
	{"rule", "n"},
	{"method", "w"},
	{"host", "w"},
	{"exact", "w"},
	{"prefix", "w"},
	{"head", "wt"},
	{"has", "w"},
	{"to", "w"},
	{"abort", "nn"},
	{"delay", "nn"},
	{"mirror", "nw"},
	{"sample", "n"},
	{"end", ""},
}

func lineText(line int, behind ...string) string {
	text := forms[line].word
	for _, s := range behind {
		text += blank + s
	}
	return text + lineEnd
}

// said is what a line says: its numbers, and its other words, as they stand behind the first one.
type said struct {
	line    int
	numbers []int
	words   []string
}

// hear is what a line says, which is given without its line's end.
func hear(text string) (said, bool) {
	first, rest, more := strings.Cut(text, blank)
	line := lineOf(first)
	if line == noLine {
		return said{}, false
	}
	s := said{line: line}
	behind := forms[line].behind
	for i := range len(behind) {
		if !more {
			return said{}, false
		}
		var word string
		word, rest, more = cut(behind[i], rest)
		if !s.take(behind[i], word) {
			return said{}, false
		}
	}
	return s, !more
}

func lineOf(word string) int {
	for line := range forms {
		if forms[line].word == word {
			return line
		}
	}
	return noLine
}

// cut takes off what a sign is of, and tells whether there is more, if only a word without bytes.
func cut(sign byte, rest string) (word, behind string, more bool) {
	if sign == aText || sign == someText {
		return rest, "", false
	}
	return strings.Cut(rest, blank)
}

func (s *said) take(sign byte, word string) bool {
	switch sign {
	case aNumber:
		n, ok := number(word)
		s.numbers = append(s.numbers, n)
		return ok
	case someText:
		if word == "" {
			return false
		}
	}
	s.words = append(s.words, word)
	return true
}

func number(s string) (int, bool) {
	n, err := strconv.Atoi(s)
	// A sign, or a nought ahead, would be another text of the same number.
	if err != nil || !areNumbers(n) || digits(n) != s {
		return 0, false
	}
	return n, true
}
