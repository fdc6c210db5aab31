package conf_test

import (
	"regexp"
	"strconv"
	"strings"
	"testing"

	"periscope/api"
	"periscope/conf"
)

// What the document says of lines, told once more: a line of each kind is a letter, and these may stand in a row in just one way.
var (
	kinds = []struct {
		letter string
		form   *regexp.Regexp
	}{
		{"F", regexp.MustCompile(`^(?s:format .+)$`)},
		{"R", regexp.MustCompile(`^rule ` + digits + `$`)},
		{"P", regexp.MustCompile(`^(?s:(method|host|exact|prefix|has) [^ ]*|head [^ ]* .*)$`)},
		{"T", regexp.MustCompile(`^(?s:to [^ ]*)$`)},
		{"A", regexp.MustCompile(`^abort ` + digits + ` ` + digits + `$`)},
		{"D", regexp.MustCompile(`^delay ` + digits + ` ` + digits + `$`)},
		{"M", regexp.MustCompile(`^(?s:mirror ` + digits + ` [^ ]*)$`)},
		{"S", regexp.MustCompile(`^sample ` + digits + `$`)},
		{"E", regexp.MustCompile(`^end$`)},
	}
	begins = regexp.MustCompile(`^F?(RP*TA?D?M?S?)*(E|RP*)?$`)
	letter = map[string]string{}
)

const digits = `(?:0|[1-9][0-9]{0,5})`

func letterOf(line string) string {
	if l, known := letter[line]; known {
		return l
	}
	letter[line] = "X"
	for _, k := range kinds {
		if k.form.MatchString(line) {
			letter[line] = k.letter
		}
	}
	return letter[line]
}

// fault is the number of a text's first line that can't stand there; 0, if there is none.
func fault(text string) int {
	lines := strings.Split(text, "\n")
	row := ""
	for i, line := range lines[:len(lines)-1] {
		row += letterOf(line)
		if !begins.MatchString(row) {
			return i + 1
		}
	}
	if !strings.HasSuffix(row, "E") || lines[len(lines)-1] != "" {
		return len(lines)
	}
	return 0
}

// config is what a text tells in which all lines may stand.
func config(text string) api.Config {
	var c api.Config
	for _, line := range strings.Split(text, "\n") {
		l := letterOf(line)
		if l == "F" {
			c.Format = line[len("format "):]
			continue
		}
		words := append(strings.SplitN(line, " ", 3), "", "")
		first, _ := strconv.Atoi(words[1])
		second, _ := strconv.Atoi(words[2])
		if l == "R" {
			c.Rules = append(c.Rules, api.Rule{Rank: first})
		}
		if len(c.Rules) == 0 {
			continue
		}
		r := &c.Rules[len(c.Rules)-1]
		switch l {
		case "P":
			r.Preds = append(r.Preds, predicate(words))
		case "T":
			r.Target = words[1]
		case "A":
			r.AbortPct, r.AbortStatus = first, second
		case "D":
			r.DelayPct, r.DelayTicks = first, second
		case "M":
			r.MirrorPct, r.Mirror = first, words[2]
		case "S":
			r.Sample = first
		}
	}
	return c
}

func predicate(words []string) api.Pred {
	switch words[0] {
	case "head":
		return api.Pred{Kind: api.PredHead, Name: words[1], Value: words[2]}
	case "has":
		return api.Pred{Kind: api.PredHas, Name: words[1]}
	}
	kinds := map[string]int{"method": api.PredMethod, "host": api.PredHost, "exact": api.PredExact, "prefix": api.PredPrefix}
	return api.Pred{Kind: kinds[words[0]], Value: words[1]}
}

// holdText holds Read of a text of at most 4096 bytes against what the document says, and what is read against what is written of it.
func holdText(t *testing.T, text string) {
	t.Helper()
	if n := fault(text); n > 0 {
		held(t, text, api.Config{}, n, api.ErrForm)
		return
	}
	want := config(text)
	if e := conf.Check(want); e != api.OK {
		held(t, text, api.Config{}, 0, e)
		return
	}
	held(t, text, want, 0, api.OK)
	s, e := conf.Write(want)
	if e != api.OK {
		t.Fatalf("Write(%+v): %v", want, e)
	}
	held(t, s, want, 0, api.OK)
}

// P13.2, P13.3: all rows of a few lines, of each kind.
func TestReadRows(t *testing.T) {
	lines := []string{"format f", "rule 7", "method GET", "head k v", "to a", "abort 1 500", "delay 2 3", "mirror 4 m", "sample 5", "end", ""}
	rows := []string{""}
	for from, to := 0, 0; len(rows) < 150000; from = to {
		to = len(rows)
		for _, row := range rows[from:to] {
			for _, line := range lines {
				rows = append(rows, row+line+"\n")
			}
		}
	}
	for _, row := range rows {
		holdText(t, row)
		holdText(t, "rule 1\nto b\n"+row+"end\n")
	}
}

// P13.2, P13.3: two lines of what follows the target in any order, at any place.
func TestReadTails(t *testing.T) {
	tails := []string{"abort 1 500", "delay 2 3", "mirror 4 m", "sample 5", "has k", "to b", "rule 9\nto c", "format f", "end"}
	for set := range 1 << len(tails) {
		row := ""
		for i, tail := range tails {
			if set>>i&1 == 1 {
				row += tail + "\n"
			}
		}
		for _, tail := range tails {
			holdText(t, "rule 1\nto a\n"+row+tail+"\nend\n")
			holdText(t, "rule 1\nto a\n"+tail+"\n"+row+"end\n")
		}
	}
}

// P13.2: lines with words too few, too many, without bytes, and unlike those told.
func TestReadWords(t *testing.T) {
	for _, first := range []string{
		"format", "rule", "method", "host", "exact", "prefix", "head", "has", "to", "abort", "delay", "mirror", "sample", "end",
		"", "Rule", "rules", "rul", "END", "end\r", "\tend", "format\t", "tell", "\x00", "\xff", "#",
	} {
		for _, tail := range []string{
			"", " ", "  ", "   ", " 1", " 1 ", "  1", " a", " a ", " a  ", " 1 2", " 1  2", " 1 2 ", " 1 a", " 1 a ", " a b", " a  b", " a b c", " 1 2 3", " 1 2 a",
			"\t1", " 1\r", " 1\t2", " /a", " /a /b", " GET", " \xff", " \x00 \x00", "1", " " + strings.Repeat("a", 2000), strings.Repeat(" ", 2000),
		} {
			line := first + tail
			for _, ahead := range []string{"", "format f\n", "rule 1\n", "rule 1\nhas k\n", "rule 1\nto a\n", "rule 1\nto a\nsample 1\n", "end\n"} {
				for _, behind := range []string{"", "\n", "\nend\n", "\nto a\nend\n"} {
					holdText(t, ahead+line+behind)
				}
			}
		}
	}
}

// P13.2, P13.3: a text that may be, and all that is one byte or one line away from it.
func TestReadNear(t *testing.T) {
	text := "format %PATH% x \nrule 50\nmethod GET\nhead k v w\nhead e \nhas h\nto b\nabort 1 500\ndelay 10 3\nmirror 7 m\nsample 100\nrule 0\nto c\nabort 0 0\nmirror 0 \nend\n"
	holdText(t, text)
	for at := range len(text) + 1 {
		holdText(t, text[:at])
		holdText(t, text[at:])
		for _, c := range " \n0123aekz/-+%\t\r\x00\xffé" {
			holdText(t, text[:at]+string(c)+text[at:])
			holdText(t, text[:at]+string([]byte{byte(c)})+text[at:])
			if at < len(text) {
				holdText(t, text[:at]+string([]byte{byte(c)})+text[at+1:])
			}
		}
		if at < len(text) {
			holdText(t, text[:at]+text[at+1:])
		}
	}
	lines := strings.SplitAfter(text, "\n")
	for from := range lines {
		for to := from + 1; to <= len(lines); to++ {
			holdText(t, strings.Join(lines[:from], "")+strings.Join(lines[to:], ""))
			holdText(t, strings.Join(lines[:to], "")+strings.Join(lines[from:], ""))
		}
	}
}
