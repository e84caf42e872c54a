package policy_test

import (
	"cmp"
	"fmt"
	"math/rand"
	"regexp"
	"slices"
	"strconv"
	"strings"
	"testing"
	"unsafe"

	"muslin/api"
	"muslin/policy"
	"muslin/veil"
)

// ruleLine and readerLine are a line of each kind; numbers have at most so many digits as may be.
var (
	ruleLine   = regexp.MustCompile(`\Arule ([a-z][a-z0-9.-]{0,23}) ([0-7](?::[0-9a-f]{8})?)\z`)
	readerLine = regexp.MustCompile(`\Areader ([a-z][a-z0-9.-]{0,23}) ([0-7](?::[0-9a-f]{8})?) (0|[1-9][0-9]{0,3}) (0|[1-9][0-9]{0,6})\z`)
)

// parse tells the same as Parse by other means.
func parse(s string) (p api.Policy, line int, e api.Errno) {
	rules, readers := map[string]api.Rule{}, map[string]api.Reader{}
	for i, text := range strings.Split(s, "\n") {
		if text == "" || text[0] == '#' {
			continue
		}
		said := len(rules) + len(readers)
		if m := ruleLine.FindStringSubmatch(text); m != nil && len(rules) < 64 && !strings.HasSuffix(m[2], ":00000000") {
			rules[m[1]] = api.Rule{Name: m[1], Label: labelOf(m[2])}
		}
		if m := readerLine.FindStringSubmatch(text); m != nil && len(readers) < 16 && !strings.HasSuffix(m[2], ":00000000") {
			k, _ := strconv.Atoi(m[3])
			budget, _ := strconv.Atoi(m[4])
			if k >= 2 && k <= 1000 && budget <= 1000000 {
				readers[m[1]] = api.Reader{Name: m[1], Clear: labelOf(m[2]), K: k, Budget: budget}
			}
		}
		if len(rules)+len(readers) == said {
			return api.Policy{}, i + 1, api.ErrPolicy
		}
	}
	for _, r := range rules {
		p.Rules = append(p.Rules, r)
	}
	for _, r := range readers {
		p.Readers = append(p.Readers, r)
	}
	slices.SortFunc(p.Rules, func(a, b api.Rule) int { return cmp.Compare(a.Name, b.Name) })
	slices.SortFunc(p.Readers, func(a, b api.Reader) int { return cmp.Compare(a.Name, b.Name) })
	return p, 0, api.OK
}

// labelOf is the label of a text that is one.
func labelOf(s string) api.Label {
	level, _ := strconv.Atoi(s[:1])
	if len(s) == 1 {
		return at(level, 0)
	}
	parts, _ := strconv.ParseUint(s[2:], 16, 32)
	return at(level, uint32(parts))
}

// told is a policy's text by other means.
func told(p api.Policy) (s string) {
	for _, r := range p.Rules {
		s += fmt.Sprintf("rule %s %s\n", r.Name, veil.Text(r.Label))
	}
	for _, r := range p.Readers {
		s += fmt.Sprintf("reader %s %s %d %d\n", r.Name, veil.Text(r.Clear), r.K, r.Budget)
	}
	return s
}

// holds holds Parse, and what follows of it, to parse.
func holds(t *testing.T, s string) {
	t.Helper()
	p, line, e := policy.Parse(s)
	want, wantLine, wantE := parse(s)
	if !policy.Same(p, want) || line != wantLine || e != wantE {
		t.Errorf("%q: %v, %d, %v, not %v, %d, %v", s, p, line, e, want, wantLine, wantE)
	}
	if e != api.OK {
		return
	}
	text, e := policy.Write(p)
	if policy.Check(p) != api.OK || text != told(p) || e != api.OK {
		t.Errorf("%q: written %q, %v", s, text, e)
	}
	if q, line, e := policy.Parse(text); !policy.Same(p, q) || line != 0 || e != api.OK {
		t.Errorf("%q: again %v, %d, %v", s, q, line, e)
	}
}

// refused holds Parse to refusing a text for that line.
func refused(t *testing.T, s string, at int) {
	t.Helper()
	if p, line, e := policy.Parse(s); p.Rules != nil || p.Readers != nil || line != at || e != api.ErrPolicy {
		t.Errorf("%q: %v, %d, %v, not %d", s, p, line, e, at)
	}
}

// P7.1: the text of a policy has its rules, then its readers, each a line.
func TestWrite(t *testing.T) {
	for i, c := range []struct {
		p    api.Policy
		want string
	}{
		{api.Policy{}, ""},
		{some(), "rule a 1\nrule user.mail 3:00000001\nreader eve 0 2 0\nreader ops 2:00000006 5 100\n"},
		{ruleOf("a", at(0, 0)), "rule a 0\n"},
		{ruleOf(long, at(7, api.MaxParts)), "rule " + long + " 7:ffffffff\n"},
		{readerOf("b", at(0, 1<<31), 2, 0), "reader b 0:80000000 2 0\n"},
		{readerOf("b-c.9", at(1, 0), 1000, 1000000), "reader b-c.9 1 1000 1000000\n"},
	} {
		if got, e := policy.Write(c.p); got != c.want || e != api.OK {
			t.Errorf("%d: %q, %v", i, got, e)
		}
	}
}

// P7.2: the chapter's examples.
func TestParseExamples(t *testing.T) {
	p, line, e := policy.Parse("rule user.mail 3:00000001\nreader ops 2 5 100\n")
	want := api.Policy{Rules: []api.Rule{{Name: "user.mail", Label: at(3, 1)}}, Readers: []api.Reader{{Name: "ops", Clear: at(2, 0), K: 5, Budget: 100}}}
	if !policy.Same(p, want) || line != 0 || e != api.OK {
		t.Errorf("%v, %d, %v", p, line, e)
	}
	refused(t, "reader ops 2 1 100", 1)
	refused(t, "#x\n\nrule a 1\nrule a 2", 4)
}

// P7.2: texts that say nothing are the policy without rules and readers.
func TestParseNothing(t *testing.T) {
	for _, s := range []string{"", "\n", "\n\n\n", "#", "#\n", "\n#", "#rule A 9\n#reader\n\n# \xff\x00", "##", "#\r\n"} {
		if p, line, e := policy.Parse(s); len(p.Rules)+len(p.Readers) != 0 || line != 0 || e != api.OK {
			t.Errorf("%q: %v, %d, %v", s, p, line, e)
		}
	}
}

// P7.2: rules and readers stand by rising names, whatever the order of their lines; the last line may lack its end.
func TestParseOrder(t *testing.T) {
	p, line, e := policy.Parse("reader ops 2:00000006 5 100\nrule user.mail 3:00000001\n# a remark\n\nreader eve 0 2 0\nrule a 1")
	if !policy.Same(p, some()) || line != 0 || e != api.OK {
		t.Errorf("%v, %d, %v", p, line, e)
	}
	p, line, e = policy.Parse("rule b 1\nrule a0 1\nrule a. 1\nrule a 1\nrule a- 1\nrule aa 1\n")
	var got []string
	for _, r := range p.Rules {
		got = append(got, r.Name)
	}
	if !slices.Equal(got, []string{"a", "a-", "a.", "a0", "aa", "b"}) || line != 0 || e != api.OK {
		t.Errorf("%v, %d, %v", got, line, e)
	}
}

// wrong are lines that are none.
var wrong = []string{
	// no word, or another one
	" ", "x", "rul", "rules a 1", "Rule a 1", "RULE a 1", "readers a 1 2 3", "Reader a 1 2 3", "a", "1", "\xff", "\x00", "\r", " #", " # a", "rule#",
	// words too few, or too many
	"rule", "rule a", "rule a 1 2", "rule a 1 2 3", "rule a 1 #", "rule a 1 2 3 4 5 6 7 8 9", "rule 1",
	"reader", "reader a", "reader a 1", "reader a 1 2", "reader a 1 2 3 4", "reader a 1 2 3 #", "reader a 1 2 3 4 5 6 7 8 9",
	// blanks
	" rule a 1", "rule  a 1", "rule a  1", "rule a 1 ", "rule ", "rule a ", "rule\ta 1", "rule a\t1", "rule a 1\r", "rule a 1\t", "\trule a 1",
	" reader a 1 2 3", "reader  a 1 2 3", "reader a  1 2 3", "reader a 1  2 3", "reader a 1 2  3", "reader a 1 2 3 ", "reader a 1 2 ", "reader a 1 2 3\r",
	// names
	"rule A 1", "rule 9 1", "rule .a 1", "rule -a 1", "rule a_b 1", "rule a/b 1", "rule \xff 1", "rule " + long + "z 1", "rule  1",
	"reader A 1 2 3", "reader 9 1 2 3", "reader .a 1 2 3", "reader a_b 1 2 3", "reader " + long + "z 1 2 3", "reader  1 2 3",
	// labels
	"rule a 8", "rule a -1", "rule a 01", "rule a x", "rule a 3:00000000", "rule a 3:1", "rule a 3:0000000A", "rule a 3:000000001", "rule a 3: 0000001", "rule a :00000001",
	"reader a 8 2 3", "reader a -1 2 3", "reader a 01 2 3", "reader a x 2 3", "reader a 3:00000000 2 3", "reader a 3:0000000G 2 3", "reader a 3:1 2 3",
	// K
	"reader a 1 1 3", "reader a 1 0 3", "reader a 1 -2 3", "reader a 1 1001 3", "reader a 1 9999 3", "reader a 1 x 3", "reader a 1 2x 3", "reader a 1 2.0 3", "reader a 1 0x2 3", "reader a 1 1_0 3", "reader a 1 1e1 3",
	"reader a 1 02 3", "reader a 1 002 3", "reader a 1 +2 3", "reader a 1 4294967298 3", "reader a 1 18446744073709551618 3", "reader a 1 " + strings.Repeat("9", 1000) + " 3", "reader a 1 \u0662 3", "reader a 1 \uff12 3",
	// Budget
	"reader a 1 2 -1", "reader a 1 2 -0", "reader a 1 2 +0", "reader a 1 2 00", "reader a 1 2 03", "reader a 1 2 1000001", "reader a 1 2 2000000", "reader a 1 2 x", "reader a 1 2 3x", "reader a 1 2 3.0", "reader a 1 2 1_0",
	"reader a 1 2 4294967296", "reader a 1 2 9223372036854775808", "reader a 1 2 18446744073709551616", "reader a 1 2 " + strings.Repeat("9", 1000), "reader a 1 2 " + strings.Repeat("0", 1000),
}

// P7.2: lines that are none are told by their number, wherever they stand.
func TestParseWrong(t *testing.T) {
	for _, s := range wrong {
		refused(t, s, 1)
		refused(t, s+"\n", 1)
		refused(t, s+"\nrule A 1\n", 1)
		refused(t, "\n#\n"+s+"\n"+s, 3)
		refused(t, "rule b 1\nreader b 1 2 3\n"+s+"\n", 3)
		refused(t, "\n\n\n\nrule b 1\n\n"+s, 7)
	}
}

// P7.2: a name that a line of its kind ahead has is told, be the rest another; of the other kind a name may be the same.
func TestParseTwice(t *testing.T) {
	refused(t, "rule a 1\nrule a 1", 2)
	refused(t, "rule b 1\nrule a 1\nrule c 1\nrule b 2\nrule a 1", 4)
	refused(t, "reader a 1 2 3\n#\n\nreader a 4 5 6\n", 4)
	refused(t, "reader b 1 2 3\nreader a 1 2 3\nreader c 1 2 3\nreader b 1 2 3", 4)
	p, line, e := policy.Parse("rule a 1\nreader a 2 3 4\nrule b 1\nreader b 2 3 4")
	if len(p.Rules) != 2 || len(p.Readers) != 2 || line != 0 || e != api.OK {
		t.Errorf("%v, %d, %v", p, line, e)
	}
}

// P7.2: the 65th rule, and the 17th reader, are told; remarks don't count, and the kinds count each for itself.
func TestParseTooMany(t *testing.T) {
	var rules, readers string
	for _, name := range names(api.MaxRules) {
		rules = "#\nrule " + name + " 1\n" + rules
	}
	for _, name := range names(api.MaxReaders) {
		readers += "reader " + name + " 1 2 3\n\n"
	}
	p, line, e := policy.Parse(rules + readers)
	if len(p.Rules) != api.MaxRules || len(p.Readers) != api.MaxReaders || line != 0 || e != api.OK {
		t.Errorf("%d, %d, %d, %v", len(p.Rules), len(p.Readers), line, e)
	}
	most := 2*api.MaxRules + 2*api.MaxReaders
	refused(t, rules+readers+"rule a 1", most+1)
	refused(t, rules+readers+"reader a 1 2 3", most+1)
	refused(t, rules+readers+"rule z 1\nreader z 1 2 3", most+1)
	refused(t, readers+"reader z 1 2 3\n"+rules, 2*api.MaxReaders+1)
	refused(t, rules+"rule z 1\n"+readers, 2*api.MaxRules+1)
	refused(t, rules+"rule n0000 1\n"+readers, 2*api.MaxRules+1)
}

// P7.2: at each place of a text each byte, and each byte taken out or put in, held to the other means.
func TestParseEachByte(t *testing.T) {
	text := "rule a-1 3:0000000a\n#x\n\nreader b.2 7 20 10\nrule a 0\n"
	for i := range len(text) + 1 {
		holds(t, text[:i])
		holds(t, text[i:])
		for x := range 256 {
			put := string([]byte{byte(x)})
			holds(t, text[:i]+put+text[i:])
			if i < len(text) {
				holds(t, text[:i]+put+text[i+1:])
			}
		}
		if i < len(text) {
			holds(t, text[:i]+text[i+1:])
		}
	}
}

// P7.2: texts of drawn words, near to lines, held to the other means.
func TestParseDrawn(t *testing.T) {
	draw := rand.New(rand.NewSource(72))
	words := []string{"rule", "reader", "a", "b", "a.b", "A", "0", "1", "2", "7", "8", "02", "100", "1000", "1001", "1000000", "1000001", "3:00000001", "3:00000000", "#", ""}
	for range 30000 {
		var lines []string
		for range draw.Intn(6) {
			w := []string{words[draw.Intn(2)], words[2+draw.Intn(3)], words[6+draw.Intn(4)], words[8+draw.Intn(8)], words[6+draw.Intn(11)]}
			if w[0] == "rule" {
				w = w[:3]
			}
			if draw.Intn(8) == 0 {
				w[draw.Intn(len(w))] = words[draw.Intn(len(words))]
			}
			if draw.Intn(10) == 0 {
				w = w[:draw.Intn(len(w))]
			}
			lines = append(lines, strings.Join(w, " "))
		}
		holds(t, strings.Join(lines, "\n"))
	}
}

// P7.5: what was written is parsed as it was, at the edges and drawn.
func TestBack(t *testing.T) {
	draw := rand.New(rand.NewSource(73))
	all := goods()
	for range 500 {
		all = append(all, drawn(draw))
	}
	for i, p := range all {
		text, e := policy.Write(p)
		if text != told(p) || e != api.OK {
			t.Errorf("%d: %q, %v", i, text, e)
		}
		if q, line, e := policy.Parse(text); !policy.Same(p, q) || line != 0 || e != api.OK {
			t.Errorf("%d: %v, %d, %v", i, q, line, e)
		}
	}
}

// P7.5: the order of lines, and those that say nothing, change nothing.
func TestLinesTurned(t *testing.T) {
	draw := rand.New(rand.NewSource(74))
	for range 500 {
		p := drawn(draw)
		lines := strings.Split(told(p), "\n")
		for range draw.Intn(5) {
			lines = append(lines, "", "#", "# rule a 1", "#reader\x00")
		}
		draw.Shuffle(len(lines), func(i, j int) { lines[i], lines[j] = lines[j], lines[i] })
		text := strings.Join(lines, "\n")
		if q, line, e := policy.Parse(text); !policy.Same(p, q) || line != 0 || e != api.OK {
			t.Errorf("%q: %v, %d, %v", text, q, line, e)
		}
	}
}

// P7.4: what is answered is new memory, each time, and none of the text's.
func TestParseIsNew(t *testing.T) {
	text := told(some())
	first, _, _ := policy.Parse(text)
	second, _, _ := policy.Parse(text)
	for i := range first.Rules {
		first.Rules[i] = api.Rule{Name: "gone"}
	}
	for i := range first.Readers {
		first.Readers[i] = api.Reader{Name: "gone"}
	}
	first.Rules, first.Readers = append(first.Rules, api.Rule{}), append(first.Readers, api.Reader{})
	if third, _, _ := policy.Parse(text); !policy.Same(second, some()) || !policy.Same(third, some()) {
		t.Errorf("%v, %v", second, third)
	}
	from := uintptr(unsafe.Pointer(unsafe.StringData(text)))
	for _, name := range []string{second.Rules[1].Name, second.Readers[0].Name} {
		if at := uintptr(unsafe.Pointer(unsafe.StringData(name))); at >= from && at < from+uintptr(len(text)) {
			t.Errorf("%q lies in the text", name)
		}
	}
}

// P7.4: a line of very many words, or very many lines, are taken as others.
func TestParseLong(t *testing.T) {
	refused(t, "rule a 1"+strings.Repeat(" ", 1<<22), 1)
	refused(t, strings.Repeat("\n", 1<<22)+"x", 1<<22+1)
	refused(t, strings.Repeat("x", 1<<22), 1)
	p, line, e := policy.Parse(strings.Repeat("#\n", 1<<20) + "rule a 1\n#" + strings.Repeat(" ", 1<<20))
	if !policy.Same(p, ruleOf("a", at(1, 0))) || line != 0 || e != api.OK {
		t.Errorf("%v, %d, %v", p, line, e)
	}
}

// FuzzParse: whatever text comes, Parse tells its policy, or the first line that is wrong.
func FuzzParse(f *testing.F) {
	for _, s := range []string{"", "#x\n\nrule a 1\nrule a 2", "reader ops 2 1 100", "rule user.mail 3:00000001\nreader ops 2 5 100\n", "reader a 0 02 3", "rule a 1 "} {
		f.Add(s)
	}
	f.Fuzz(holds)
}
