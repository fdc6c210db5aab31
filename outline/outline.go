// Package outline checks of configs what must hold whoever asks: how a line of the log is written, and how many rules there are. What a rule must be is told by who asks.
package outline

import "periscope/api"

const (
	firstMay = ' '
	lastMay  = '~'
)

// Check tells the first fault of a config, of which rule tells the first fault of a rule.
func Check(c api.Config, rule func(r api.Rule) api.Errno) api.Errno {
	switch {
	case !isFormat(c.Format):
		return api.ErrText
	case len(c.Rules) > api.MaxRules:
		return api.ErrFull
	}
	for _, r := range c.Rules {
		if errno := rule(r); errno != api.OK {
			return errno
		}
	}
	return api.OK
}

func isFormat(s string) bool {
	if len(s) > api.MaxLine {
		return false
	}
	for i := range len(s) {
		if s[i] < firstMay || s[i] > lastMay {
			return false
		}
	}
	return true
}
