package policy_test

import (
	"fmt"
	"math"
	"math/rand"
	"slices"
	"strings"
	"testing"

	"muslin/api"
	"muslin/policy"
)

// at is a label.
func at(level int, parts uint32) api.Label {
	return api.Label{Level: level, Parts: parts}
}

// long is a name that is as long as may be.
var long = "a" + strings.Repeat("z", api.MaxName-1)

// names are some that may be, each of them unlike the others.
func names(n int) (l []string) {
	for i := range n {
		l = append(l, fmt.Sprintf("n%04d", i))
	}
	return l
}

// rules are so many of rising names.
func rules(n int) (l []api.Rule) {
	for i, name := range names(n) {
		l = append(l, api.Rule{Name: name, Label: at(i%8, uint32(i))})
	}
	return l
}

// readers are so many of rising names.
func readers(n int) (l []api.Reader) {
	for i, name := range names(n) {
		l = append(l, api.Reader{Name: name, Clear: at(i%8, uint32(i)), K: 2 + i, Budget: i})
	}
	return l
}

// some is a policy of two rules and two readers.
func some() api.Policy {
	return api.Policy{
		Rules:   []api.Rule{{Name: "a", Label: at(1, 0)}, {Name: "user.mail", Label: at(3, 1)}},
		Readers: []api.Reader{{Name: "eve", Clear: at(0, 0), K: 2, Budget: 0}, {Name: "ops", Clear: at(2, 6), K: 5, Budget: 100}},
	}
}

// ruleOf is a policy of one rule.
func ruleOf(name string, l api.Label) api.Policy {
	return api.Policy{Rules: []api.Rule{{Name: name, Label: l}}}
}

// readerOf is a policy of one reader.
func readerOf(name string, l api.Label, k, budget int) api.Policy {
	return api.Policy{Readers: []api.Reader{{Name: name, Clear: l, K: k, Budget: budget}}}
}

// drawnName is a name of few letters, so that some are alike, or begin alike.
func drawnName(draw *rand.Rand) string {
	b := []byte{"abz"[draw.Intn(3)]}
	for range draw.Intn(4) {
		b = append(b, "az09.-"[draw.Intn(6)])
	}
	return string(b)
}

// drawnNames are so many at most, rising.
func drawnNames(draw *rand.Rand, most int) (l []string) {
	for range draw.Intn(most + 1) {
		l = append(l, drawnName(draw))
	}
	slices.Sort(l)
	return slices.Compact(l)
}

// drawn is a policy that may be, drawn from a source that tells the same ones each time.
func drawn(draw *rand.Rand) (p api.Policy) {
	for _, name := range drawnNames(draw, api.MaxRules) {
		p.Rules = append(p.Rules, api.Rule{Name: name, Label: at(draw.Intn(8), draw.Uint32()>>draw.Intn(33))})
	}
	for _, name := range drawnNames(draw, api.MaxReaders) {
		l := at(draw.Intn(8), draw.Uint32()>>draw.Intn(33))
		p.Readers = append(p.Readers, api.Reader{Name: name, Clear: l, K: 2 + draw.Intn(999), Budget: draw.Intn(1000001)})
	}
	return p
}

// goods are policies that may be, at the edges of what may.
func goods() []api.Policy {
	return []api.Policy{
		{},
		{Rules: []api.Rule{}, Readers: []api.Reader{}},
		some(),
		{Rules: rules(api.MaxRules), Readers: readers(api.MaxReaders)},
		ruleOf("a", at(0, 0)),
		ruleOf(long, at(7, api.MaxParts)),
		readerOf(long, at(7, api.MaxParts), 1000, 1000000),
		readerOf("a", at(0, 0), 2, 0),
		// A rule and a reader may have one name.
		{Rules: []api.Rule{{Name: "a"}}, Readers: []api.Reader{{Name: "a", K: 2}}},
		// Names rise by their bytes.
		{Rules: []api.Rule{{Name: "a"}, {Name: "a-"}, {Name: "a."}, {Name: "a0"}, {Name: "aa"}, {Name: "ab"}, {Name: "b"}}},
		{Readers: []api.Reader{{Name: "a", K: 2}, {Name: "a-", K: 2}, {Name: "a.", K: 2}, {Name: "a0", K: 2}, {Name: "aa", K: 2}, {Name: "b", K: 2}}},
	}
}

// bads are policies that may not be, each for one cause alone.
func bads() (l []api.Policy) {
	l = []api.Policy{
		{Rules: rules(api.MaxRules + 1)},
		{Rules: rules(1000)},
		{Readers: readers(api.MaxReaders + 1)},
		{Rules: rules(3), Readers: readers(api.MaxRules)},
		{Rules: []api.Rule{{Name: "a"}, {Name: "a"}}},
		{Rules: []api.Rule{{Name: "b"}, {Name: "a"}}},
		{Rules: []api.Rule{{Name: "a"}, {Name: "c"}, {Name: "b"}}},
		{Rules: []api.Rule{{Name: "b"}, {Name: "a"}, {Name: "c"}}},
		{Rules: []api.Rule{{Name: "a0"}, {Name: "a."}}},
		{Readers: []api.Reader{{Name: "a", K: 2}, {Name: "a", K: 3}}},
		{Readers: []api.Reader{{Name: "b", K: 2}, {Name: "a", K: 2}}},
		{Readers: []api.Reader{{Name: "a", K: 2}, {Name: "c", K: 2}, {Name: "b", K: 2}}},
		{Rules: []api.Rule{{Name: "a"}, {Name: "b", Label: at(8, 0)}}},
		{Rules: []api.Rule{{Name: "a", Label: at(8, 0)}, {Name: "b"}}},
		{Readers: []api.Reader{{Name: "a", K: 2}, {Name: "b", K: 1}}},
		{Readers: []api.Reader{{Name: "a", K: 1}, {Name: "b", K: 2}}},
	}
	for _, label := range []api.Label{at(8, 0), at(-1, 0), at(math.MaxInt, 1), at(math.MinInt, 1), at(1<<32, 0)} {
		l = append(l, ruleOf("a", label), readerOf("a", label, 2, 0))
	}
	for _, name := range []string{"", "A", "0", "a b", long + "z"} {
		l = append(l, ruleOf(name, at(0, 0)), readerOf(name, at(0, 0), 2, 0))
	}
	for _, k := range []int{1, 0, -1, -2, 1001, math.MaxInt, math.MinInt, 1<<32 + 2} {
		l = append(l, readerOf("a", at(0, 0), k, 0))
	}
	for _, budget := range []int{-1, 1000001, math.MaxInt, math.MinInt, 1 << 32} {
		l = append(l, readerOf("a", at(0, 0), 2, budget))
	}
	return l
}

// isName tells the same as IsName by other means.
func isName(s string) bool {
	return len(s) >= 1 && len(s) <= 24 && s[0] >= 'a' && s[0] <= 'z' && strings.Trim(s, "abcdefghijklmnopqrstuvwxyz0123456789.-") == ""
}

// P7.1: names of each length.
func TestIsNameLengths(t *testing.T) {
	for n := range 100 {
		for _, s := range []string{strings.Repeat("a", n), "z" + strings.Repeat("9", n)} {
			if got, want := policy.IsName(s), len(s) >= 1 && len(s) <= 24; got != want {
				t.Errorf("%q: %v", s, got)
			}
		}
	}
	if policy.IsName(strings.Repeat("a", 1<<20)) {
		t.Error("a long one")
	}
}

// P7.1: each byte at each place of a name.
func TestIsNameEachByte(t *testing.T) {
	for _, name := range []string{"a", "ab", "user.mail", "z-9.a", long} {
		if !policy.IsName(name) {
			t.Errorf("%q is none", name)
		}
		for i := range name {
			for x := range 256 {
				s := name[:i] + string([]byte{byte(x)}) + name[i+1:]
				if got := policy.IsName(s); got != isName(s) {
					t.Errorf("%q: %v", s, got)
				}
			}
		}
	}
}

// P7.1: what is no name, and what is an odd one.
func TestIsName(t *testing.T) {
	for _, s := range []string{"a.", "a-", "a..b", "a--", "b-.9", "q0", "z"} {
		if !policy.IsName(s) {
			t.Errorf("%q is none", s)
		}
	}
	for _, s := range []string{"", " ", ".a", "-a", "9", "9a", "A", "aB", "a_b", "a b", " a", "a ", "a\n", "a\x00", "\x00", "a/b", "a:", "a=b", "{", "`", "\xff", "a\xff", "\u00e4", "a\u00e4", "a\u0663", "\uff41"} {
		if policy.IsName(s) {
			t.Errorf("%q is one", s)
		}
	}
}

// P7.1: policies that may be, and those that may not, each for one cause.
func TestCheck(t *testing.T) {
	for i, p := range goods() {
		if e := policy.Check(p); e != api.OK {
			t.Errorf("good %d: %v", i, e)
		}
	}
	for i, p := range bads() {
		if e := policy.Check(p); e != api.ErrPolicy {
			t.Errorf("bad %d: %v", i, e)
		}
		if s, e := policy.Write(p); s != "" || e != api.ErrPolicy {
			t.Errorf("bad %d: %q, %v", i, s, e)
		}
	}
}

// P7.1: each number of K and of Budget at its edges, beside one another.
func TestCheckNumbers(t *testing.T) {
	for k := -3; k < 1010; k++ {
		if got, want := policy.Check(readerOf("a", at(0, 0), k, 7)) == api.OK, k >= 2 && k <= 1000; got != want {
			t.Errorf("K %d: %v", k, got)
		}
	}
	for _, edge := range []int{0, 1000, 1000000, 1 << 20} {
		for budget := edge - 5; budget <= edge+5; budget++ {
			if got, want := policy.Check(readerOf("a", at(0, 0), 2, budget)) == api.OK, budget >= 0 && budget <= 1000000; got != want {
				t.Errorf("Budget %d: %v", budget, got)
			}
		}
	}
}

// unlike are the changes that each make another policy of some().
var unlike = []func(p *api.Policy){
	func(p *api.Policy) { p.Rules[0].Name = "aa" },
	func(p *api.Policy) { p.Rules[1].Name = "a" },
	func(p *api.Policy) { p.Rules[0].Label.Level = 2 },
	func(p *api.Policy) { p.Rules[1].Label.Parts = 3 },
	func(p *api.Policy) { p.Rules[0], p.Rules[1] = p.Rules[1], p.Rules[0] },
	func(p *api.Policy) { p.Rules = p.Rules[:1] },
	func(p *api.Policy) { p.Rules = nil },
	func(p *api.Policy) { p.Rules = append(p.Rules, api.Rule{Name: "z"}) },
	func(p *api.Policy) { p.Readers[0].Name = "evf" },
	func(p *api.Policy) { p.Readers[1].Clear.Level = 3 },
	func(p *api.Policy) { p.Readers[1].Clear.Parts = 7 },
	func(p *api.Policy) { p.Readers[0].K = 3 },
	func(p *api.Policy) { p.Readers[1].Budget = 101 },
	func(p *api.Policy) { p.Readers[0], p.Readers[1] = p.Readers[1], p.Readers[0] },
	func(p *api.Policy) { p.Readers = p.Readers[1:] },
	func(p *api.Policy) { p.Readers = nil },
	func(p *api.Policy) { p.Readers = append(p.Readers, api.Reader{Name: "z", K: 2}) },
}

// P7.1: Same looks at each field, and at how many there are.
func TestSame(t *testing.T) {
	if !policy.Same(some(), some()) {
		t.Error("the same one")
	}
	for i, change := range unlike {
		p := some()
		change(&p)
		if policy.Same(p, some()) || policy.Same(some(), p) || !policy.Same(p, p) {
			t.Errorf("change %d", i)
		}
	}
}

// P7.1: lists without elements are the same, nil or not; what may not be is held to each other, too.
func TestSameOfNone(t *testing.T) {
	if !policy.Same(api.Policy{}, api.Policy{Rules: []api.Rule{}, Readers: []api.Reader{}}) || !policy.Same(api.Policy{Rules: []api.Rule{}}, api.Policy{}) {
		t.Error("without elements")
	}
	all := bads()
	for i, p := range all {
		for j, q := range bads() {
			if got, want := policy.Same(p, q), fmt.Sprint(p) == fmt.Sprint(q); got != want {
				t.Errorf("bad %d, %d: %v", i, j, got)
			}
		}
	}
}

// P7.3: of each name that a policy has, and of others, beside, between and behind them.
func TestLabelAndReader(t *testing.T) {
	draw := rand.New(rand.NewSource(71))
	all := goods()
	for range 200 {
		all = append(all, drawn(draw))
	}
	for i, p := range all {
		labels, who := map[string]api.Label{}, map[string]api.Reader{}
		asked := []string{"", "a", "A", "b", "user.mail", "user.mai", "user.maill", "user.Mail", "ops", "eve", "\xff", "zzzz", long, long + "z"}
		for _, r := range p.Rules {
			labels[r.Name] = r.Label
			asked = append(asked, r.Name, r.Name+"-", r.Name+" ", r.Name[1:])
		}
		for _, r := range p.Readers {
			who[r.Name] = r
			asked = append(asked, r.Name, r.Name+"0", " "+r.Name)
		}
		for _, name := range asked {
			if got := policy.Label(p, name); got != labels[name] {
				t.Errorf("good %d, %q: %v, not %v", i, name, got, labels[name])
			}
			want, is := who[name]
			if got, there := policy.Reader(p, name); got != want || there != is {
				t.Errorf("good %d, %q: %v, %v, not %v, %v", i, name, got, there, want, is)
			}
		}
	}
}

// P7.3: of a policy that may not be nothing is told, though what is asked for stands in it, and may be.
func TestLabelAndReaderOfNone(t *testing.T) {
	for i, p := range bads() {
		more := p
		more.Rules = append(slices.Clone(p.Rules), api.Rule{Name: "zz", Label: at(5, 5)})
		more.Readers = append(slices.Clone(p.Readers), api.Reader{Name: "zz", K: 2, Budget: 9})
		asked := []string{"", "a", "b", "zz"}
		for _, r := range p.Rules {
			asked = append(asked, r.Name)
		}
		for _, r := range p.Readers {
			asked = append(asked, r.Name)
		}
		for _, name := range asked {
			for _, q := range []api.Policy{p, more} {
				if got := policy.Label(q, name); got != (api.Label{}) {
					t.Errorf("bad %d, %q: %v", i, name, got)
				}
				if got, there := policy.Reader(q, name); got != (api.Reader{}) || there {
					t.Errorf("bad %d, %q: %v, %v", i, name, got, there)
				}
			}
		}
	}
	// Readers that may not be keep a policy from being, whatever its rules, and the other way round.
	p := some()
	p.Readers[0].K = 1
	if got := policy.Label(p, "user.mail"); got != (api.Label{}) {
		t.Errorf("%v", got)
	}
	p = some()
	p.Rules[0].Label.Level = 8
	if got, there := policy.Reader(p, "ops"); got != (api.Reader{}) || there {
		t.Errorf("%v, %v", got, there)
	}
}

// roomy is some policy whose lists have spare room with something in it.
func roomy() (p, whole api.Policy) {
	whole = some()
	whole.Rules = append(whole.Rules, api.Rule{Name: "z", Label: at(7, 7)}, api.Rule{Name: "b"})
	whole.Readers = append(whole.Readers, api.Reader{Name: "z", K: 9}, api.Reader{Name: "b"})
	return api.Policy{Rules: whole.Rules[:2], Readers: whole.Readers[:2]}, whole
}

// P7.4: what is handed in stays as it was, its spare room too.
func TestOnlyRead(t *testing.T) {
	p, whole := roomy()
	_, was := roomy()
	policy.Check(p)
	policy.Write(p)
	policy.Same(p, whole)
	for _, name := range []string{"a", "user.mail", "ops", "eve", "z", "b", "none"} {
		policy.Label(p, name)
		policy.Reader(p, name)
	}
	if !policy.Same(whole, was) {
		t.Errorf("%v, not %v", whole, was)
	}
	for i, p := range bads() {
		policy.Check(p)
		policy.Write(p)
		policy.Label(p, "a")
		policy.Reader(p, "a")
		if q := bads()[i]; !policy.Same(p, q) {
			t.Errorf("bad %d: %v, not %v", i, p, q)
		}
	}
}
