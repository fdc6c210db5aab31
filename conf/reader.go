package conf

import (
	"strings"

	"periscope/api"
)

// reader goes through a text line by line: number and last are of the line that was read last.
type reader struct {
	rest   string
	number int
	last   int
	config api.Config
}

// lines reads all lines, up to the first one that can't stand there, and tells whether there is none.
func (r *reader) lines() bool {
next:
	r.number++
	if !r.line() {
		return false
	}
	// What stands behind the end is a line that can't stand there, so it is read, too.
	if r.last != endLine || r.rest != "" {
		goto next
	}
	return true
}

func (r *reader) line() bool {
	text, rest, ended := strings.Cut(r.rest, lineEnd)
	s, ok := hear(text)
	if !ended || !ok || !follows(s.line, r.last) {
		return false
	}
	r.rest = rest
	r.last = s.line
	r.keep(s)
	return true
}

// follows tells whether a line may stand behind another one.
func follows(line, last int) bool {
	// A rule's first lines end with the one that tells to whom it goes.
	unfinished := ruleLine <= last && last < toLine
	switch {
	case line == formatLine:
		return last == noLine
	case line == ruleLine, line == endLine:
		return !unfinished && last != endLine
	case line <= toLine:
		return unfinished
	}
	return toLine <= last && last < line
}

func (r *reader) keep(s said) {
	rules := r.config.Rules
	switch s.line {
	case formatLine:
		r.config.Format = s.words[0]
	case ruleLine:
		r.config.Rules = append(rules, api.Rule{Rank: s.numbers[0]})
	case endLine:
		// It says nothing of the config.
	default:
		// Each other line follows a rule, so that there is one.
		last := len(rules) - 1
		rules[last] = with(rules[last], s)
	}
}

// with is a rule with what one of its lines says.
func with(r api.Rule, s said) api.Rule {
	switch s.line {
	case toLine:
		r.Target = s.words[0]
	case abortLine:
		r.AbortPct, r.AbortStatus = s.numbers[0], s.numbers[1]
	case delayLine:
		r.DelayPct, r.DelayTicks = s.numbers[0], s.numbers[1]
	case mirrorLine:
		r.MirrorPct, r.Mirror = s.numbers[0], s.words[0]
	case sampleLine:
		r.Sample = s.numbers[0]
	default:
		r.Preds = append(r.Preds, predOf(s))
	}
	return r
}

func predOf(s said) api.Pred {
	p := api.Pred{Kind: s.line - predLines}
	switch s.line {
	case headLine:
		p.Name, p.Value = s.words[0], s.words[1]
	case hasLine:
		p.Name = s.words[0]
	default:
		p.Value = s.words[0]
	}
	return p
}
