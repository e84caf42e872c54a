package policy

import (
	"strconv"
	"strings"

	"muslin/api"
	"muslin/veil"
)

const (
	ruleWord   = "rule"
	readerWord = "reader"
	blank      = " "
	lineEnd    = "\n"
	remark     = "#" // begins a line that says nothing
	mostWords  = 5   // of a line: those of a reader
)

// Parse is the policy of a text, whatever the order of its lines; else the first line that is wrong is told.
func Parse(s string) (p api.Policy, line int, e api.Errno) {
	for at := 1; s != ""; at++ {
		text, rest, _ := strings.Cut(s, lineEnd)
		if !heed(&p, text) {
			return api.Policy{}, at, api.ErrPolicy
		}
		s = rest
	}
	return p, 0, api.OK
}

// Write is a policy's text.
func Write(p api.Policy) (string, api.Errno) {
	if e := Check(p); e != api.OK {
		return "", e
	}
	var text strings.Builder
	for _, r := range p.Rules {
		text.WriteString(told(ruleWord, r.Name, veil.Text(r.Label)))
	}
	for _, r := range p.Readers {
		text.WriteString(told(readerWord, r.Name, veil.Text(r.Clear), strconv.Itoa(r.K), strconv.Itoa(r.Budget)))
	}
	return text.String(), api.OK
}

// told is a line of words.
func told(w ...string) string {
	return strings.Join(w, blank) + lineEnd
}

// heed puts what a line says into a policy; false, if that can't be, and the policy is of no use then.
func heed(p *api.Policy, line string) bool {
	if line == "" || strings.HasPrefix(line, remark) {
		return true
	}
	// Words that are too many stand in one more, so that no line makes a long list.
	w := words(strings.SplitN(line, blank, mostWords+1))
	var right, fits bool
	switch w.next() {
	case ruleWord:
		var r api.Rule
		r, right = w.rule()
		p.Rules, fits = placed(p.Rules, r, api.MaxRules, nameOfRule)
	case readerWord:
		var r api.Reader
		r, right = w.reader()
		p.Readers, fits = placed(p.Readers, r, api.MaxReaders, nameOfReader)
	}
	return right && fits && len(w) == 0
}

// words are those of a line that were not taken off yet.
type words []string

// next takes the first word off. If none is left, it is one without bytes, which is nothing that a line may have.
func (w *words) next() string {
	if len(*w) == 0 {
		return ""
	}
	first := (*w)[0]
	*w = (*w)[1:]
	return first
}

// name takes a name off, into memory of its own: it would keep the whole text else.
func (w *words) name() string {
	return strings.Clone(w.next())
}

// label takes a label off; false, if there is none.
func (w *words) label() (api.Label, bool) {
	l, e := veil.Read(w.next())
	return l, e == api.OK
}

// rule takes off what a line says of a rule; false, if that may not be.
func (w *words) rule() (api.Rule, bool) {
	name := w.name()
	label, right := w.label()
	r := api.Rule{Name: name, Label: label}
	return r, right && !badRule(r)
}

// reader takes off what a line says of a reader; false, if that may not be.
func (w *words) reader() (api.Reader, bool) {
	name := w.name()
	cleared, right := w.label()
	number := func() int {
		word := w.next()
		n, err := strconv.Atoi(word)
		// A number has one text, without a sign and without noughts ahead.
		if err != nil || strconv.Itoa(n) != word {
			right = false
		}
		return n
	}
	k := number()
	budget := number()
	r := api.Reader{Name: name, Clear: cleared, K: k, Budget: budget}
	return r, right && !badReader(r)
}
