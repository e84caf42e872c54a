package batch_test

import (
	"fmt"
	"math"
	"math/rand"
	"slices"
	"strings"
	"testing"

	"muslin/api"
	"muslin/batch"
	"muslin/digits"
	"muslin/value"
)

// of is a batch.
func of(agent, seq int, spans ...api.Span) api.Batch {
	return api.Batch{Agent: agent, Seq: seq, Spans: spans}
}

// plain is the span of the chapter's example.
func plain() api.Span {
	return api.Span{Trace: 3, ID: 4, Start: 5, Length: 6, Service: "a", Op: "b"}
}

// longName is a name that is as long as may be, longText a subject or a value that is.
var (
	longName = strings.Repeat("a", api.MaxName)
	longText = strings.Repeat("\xff", api.MaxBytes)
)

// badNames are texts that are no names.
var badNames = []string{"", "A", "1a", ".a", "-a", "a_", "a b", "a\x00", "\xff", "aB", longName + "a", longText}

// attrs are so many attributes of rising names.
func attrs(n int) (l []api.Attr) {
	for i := range n {
		l = append(l, api.Attr{Name: fmt.Sprintf("n%d", i), Label: api.Label{Level: i, Parts: uint32(i) << 20}, Value: api.Value{Kind: 2, B: strings.Repeat("v", i)}})
	}
	return l
}

// many is a batch of so many spans, no two alike; some have no subject, some no attributes.
func many(n int) api.Batch {
	b := of(7, 300)
	for i := range n {
		b.Spans = append(b.Spans, api.Span{Trace: i + 1, ID: i*100 + 1, Parent: i, Service: fmt.Sprintf("s%d", i), Op: fmt.Sprintf("op.%d", i), Start: i * 50, Length: i * 1000, Subject: strings.Repeat("u", i%3), Attrs: attrs((i + 1) % 4)})
	}
	return b
}

// fullest is a batch whose spans have all that they may have.
func fullest() api.Batch {
	b := of(16, api.MaxNumber)
	for range api.MaxSpans {
		s := api.Span{Trace: api.MaxNumber, ID: api.MaxNumber, Parent: api.MaxNumber, Service: longName, Op: longName, Start: 1 << 52, Length: 1<<52 - 1, Subject: longText}
		for i := range api.MaxAttrs {
			s.Attrs = append(s.Attrs, api.Attr{Name: longName[1:] + string(rune('a'+i)), Label: api.Label{Level: 7, Parts: math.MaxUint32}, Value: api.Value{Kind: 2, B: longText}})
		}
		b.Spans = append(b.Spans, s)
	}
	return b
}

// sized is a batch that has just so many bytes, all of whose spans may be.
func sized(t *testing.T, size int) api.Batch {
	b := fullest()
	for i := range b.Spans {
		over := len(told(b)) - size
		s := &b.Spans[i]
		for over > 200 && len(s.Attrs) > 0 {
			s.Attrs = s.Attrs[1:]
			over = len(told(b)) - size
		}
		s.Subject = s.Subject[min(max(over, 0), len(s.Subject)):]
	}
	if n := len(told(b)); n != size {
		t.Fatalf("%d bytes, not %d", n, size)
	}
	return b
}

// goodSpans change a span to one that may be.
var goodSpans = []func(*api.Span){
	func(s *api.Span) {},
	func(s *api.Span) { s.Trace = 1 },
	func(s *api.Span) { s.Trace = api.MaxNumber },
	func(s *api.Span) { s.ID = 1 },
	func(s *api.Span) { s.ID = api.MaxNumber },
	func(s *api.Span) { s.Parent = 1 },
	func(s *api.Span) { s.Parent = s.ID },
	func(s *api.Span) { s.Parent = api.MaxNumber },
	func(s *api.Span) { s.Start, s.Length = 0, 0 },
	func(s *api.Span) { s.Start, s.Length = api.MaxNumber, 0 },
	func(s *api.Span) { s.Start, s.Length = 0, api.MaxNumber },
	func(s *api.Span) { s.Start, s.Length = api.MaxNumber-1, 1 },
	func(s *api.Span) { s.Start, s.Length = 1, api.MaxNumber-1 },
	func(s *api.Span) { s.Start, s.Length = 1<<52, 1<<52-1 },
	func(s *api.Span) { s.Service = longName },
	func(s *api.Span) { s.Op = longName },
	func(s *api.Span) { s.Service, s.Op = "z9.-", "z" },
	func(s *api.Span) { s.Subject = "\x00" },
	func(s *api.Span) { s.Subject = "No Name, But Bytes" },
	func(s *api.Span) { s.Subject = longText[1:] },
	func(s *api.Span) { s.Subject = longText },
	func(s *api.Span) { s.Attrs = attrs(1) },
	func(s *api.Span) { s.Attrs = attrs(8) },
	func(s *api.Span) { s.Attrs = []api.Attr{} },
}

// badSpans change a span that may be to one that may not.
var badSpans = []func(*api.Span){
	func(s *api.Span) { s.Trace = 0 },
	func(s *api.Span) { s.Trace = -1 },
	func(s *api.Span) { s.Trace = math.MinInt },
	func(s *api.Span) { s.Trace = api.MaxNumber + 1 },
	func(s *api.Span) { s.Trace = math.MaxInt },
	func(s *api.Span) { s.ID = 0 },
	func(s *api.Span) { s.ID = -1 },
	func(s *api.Span) { s.ID = math.MinInt },
	func(s *api.Span) { s.ID = api.MaxNumber + 1 },
	func(s *api.Span) { s.ID = math.MaxInt },
	func(s *api.Span) { s.Parent = -1 },
	func(s *api.Span) { s.Parent = math.MinInt },
	func(s *api.Span) { s.Parent = api.MaxNumber + 1 },
	func(s *api.Span) { s.Parent = math.MaxInt },
	func(s *api.Span) { s.Start = -1 },
	func(s *api.Span) { s.Start, s.Length = -1, 5 },
	func(s *api.Span) { s.Start, s.Length = math.MinInt, 0 },
	func(s *api.Span) { s.Start, s.Length = math.MinInt, math.MaxInt },
	func(s *api.Span) { s.Length = -1 },
	func(s *api.Span) { s.Start, s.Length = 5, -1 },
	func(s *api.Span) { s.Start, s.Length = api.MaxNumber, -1 },
	func(s *api.Span) { s.Length = math.MinInt },
	func(s *api.Span) { s.Start, s.Length = api.MaxNumber+1, 0 },
	func(s *api.Span) { s.Start, s.Length = api.MaxNumber+1, -1 },
	func(s *api.Span) { s.Start, s.Length = 0, api.MaxNumber+1 },
	func(s *api.Span) { s.Start, s.Length = -1, api.MaxNumber+1 },
	func(s *api.Span) { s.Start, s.Length = api.MaxNumber, 1 },
	func(s *api.Span) { s.Start, s.Length = 1, api.MaxNumber },
	func(s *api.Span) { s.Start, s.Length = 1<<52, 1<<52 },
	func(s *api.Span) { s.Start, s.Length = api.MaxNumber, api.MaxNumber },
	func(s *api.Span) { s.Start, s.Length = math.MaxInt, 1 },
	func(s *api.Span) { s.Start, s.Length = 1, math.MaxInt },
	func(s *api.Span) { s.Start, s.Length = math.MaxInt, math.MaxInt },
	func(s *api.Span) { s.Subject = longText + "\x00" },
	func(s *api.Span) { s.Subject = strings.Repeat("u", 1000) },
	func(s *api.Span) { s.Attrs = []api.Attr{{Name: "a"}} },
	func(s *api.Span) { s.Attrs = attrs(9) },
	func(s *api.Span) { s.Attrs = make([]api.Attr, 9) },
	func(s *api.Span) { s.Attrs = slices.Repeat(attrs(1), 2) },
	func(s *api.Span) { s.Attrs = attrs(3); slices.Reverse(s.Attrs) },
	func(s *api.Span) { s.Attrs = attrs(8); s.Attrs[7].Label.Level = 8 },
	func(s *api.Span) { s.Attrs = attrs(8); s.Attrs[3].Name = "n3_" },
	func(s *api.Span) { s.Attrs = attrs(8); s.Attrs[0].Value = api.Value{Kind: 3, N: 2} },
	func(s *api.Span) { s.Attrs = attrs(1); s.Attrs[0].Value.B = longText + "\x00" },
	func(s *api.Span) { s.Attrs = attrs(1); s.Attrs[0].Value.N = 1 },
	func(s *api.Span) { s.Service = badNames[0] },
	func(s *api.Span) { s.Op = badNames[0] },
	func(s *api.Span) { s.Service = badNames[1] },
	func(s *api.Span) { s.Op = badNames[1] },
	func(s *api.Span) { s.Service = badNames[2] },
	func(s *api.Span) { s.Op = badNames[2] },
	func(s *api.Span) { s.Service = badNames[5] },
	func(s *api.Span) { s.Op = badNames[6] },
	func(s *api.Span) { s.Service = badNames[8] },
	func(s *api.Span) { s.Op = badNames[7] },
	func(s *api.Span) { s.Service = badNames[10] },
	func(s *api.Span) { s.Op = badNames[10] },
	func(s *api.Span) { s.Service = badNames[11] },
	func(s *api.Span) { s.Op = badNames[11] },
}

// badBatches change a batch that may be to one that may not, though its spans may.
var badBatches = []func(*api.Batch){
	func(b *api.Batch) { b.Agent = 0 },
	func(b *api.Batch) { b.Agent = -1 },
	func(b *api.Batch) { b.Agent = 17 },
	func(b *api.Batch) { b.Agent = 128 },
	func(b *api.Batch) { b.Agent = 1<<32 + 1 },
	func(b *api.Batch) { b.Agent = api.MaxNumber },
	func(b *api.Batch) { b.Agent = math.MaxInt },
	func(b *api.Batch) { b.Agent = math.MinInt },
	func(b *api.Batch) { b.Seq = 0 },
	func(b *api.Batch) { b.Seq = -1 },
	func(b *api.Batch) { b.Seq = api.MaxNumber + 1 },
	func(b *api.Batch) { b.Seq = math.MaxInt },
	func(b *api.Batch) { b.Seq = math.MinInt },
	func(b *api.Batch) { b.Spans = nil },
	func(b *api.Batch) { b.Spans = []api.Span{} },
	func(b *api.Batch) { b.Spans = many(17).Spans },
	func(b *api.Batch) { b.Spans = slices.Repeat([]api.Span{plain()}, 1000) },
	func(b *api.Batch) { *b = fullest() },
}

// changes change one field of a batch, or of its span at i, whichever it was.
var changes = []func(*api.Batch, int){
	func(b *api.Batch, i int) { b.Agent++ },
	func(b *api.Batch, i int) { b.Seq = -b.Seq },
	func(b *api.Batch, i int) { b.Spans = append(b.Spans, b.Spans[0]) },
	func(b *api.Batch, i int) { b.Spans = b.Spans[:i] },
	func(b *api.Batch, i int) { b.Spans[i].Trace++ },
	func(b *api.Batch, i int) { b.Spans[i].ID-- },
	func(b *api.Batch, i int) { b.Spans[i].Parent = math.MinInt },
	func(b *api.Batch, i int) { b.Spans[i].Service += "x" },
	func(b *api.Batch, i int) { b.Spans[i].Service = strings.ToUpper(b.Spans[i].Service) },
	func(b *api.Batch, i int) { b.Spans[i].Op = b.Spans[i].Op[1:] },
	func(b *api.Batch, i int) {
		s := &b.Spans[i]
		s.Service, s.Op = s.Op, s.Service
	},
	func(b *api.Batch, i int) { b.Spans[i].Start++ },
	func(b *api.Batch, i int) { b.Spans[i].Length++ },
	func(b *api.Batch, i int) { b.Spans[i].Subject += "\x00" },
	func(b *api.Batch, i int) { b.Spans[i].Attrs = append(b.Spans[i].Attrs, api.Attr{}) },
	func(b *api.Batch, i int) { b.Spans[i].Attrs = attrs(8) },
	func(b *api.Batch, i int) {
		b.Spans[i].Attrs = append(attrs((i+1)%4), attrs(1)...)
	},
	func(b *api.Batch, i int) {
		l := attrs((i + 1) % 4)
		for j := range l {
			l[j].Name += "x"
		}
		b.Spans[i].Attrs = append(l, api.Attr{Name: "z"})
	},
}

// copied is a batch that shares no memory with another one, but is as it.
func copied(b api.Batch) api.Batch {
	b.Spans = slices.Clone(b.Spans)
	for i := range b.Spans {
		b.Spans[i].Attrs = slices.Clone(b.Spans[i].Attrs)
	}
	return b
}

// alike tells whether two batches are the same, by other means.
func alike(a, b api.Batch) bool {
	plainly := func(b api.Batch) string {
		s := fmt.Sprint(b.Agent, b.Seq, len(b.Spans))
		for _, x := range b.Spans {
			s += fmt.Sprintf("; %d %d %d %q %q %d %d %q %d", x.Trace, x.ID, x.Parent, x.Service, x.Op, x.Start, x.Length, x.Subject, len(x.Attrs))
			for _, a := range x.Attrs {
				s += fmt.Sprintf(", %q %d %d %d %d %q", a.Name, a.Label.Level, a.Label.Parts, a.Value.Kind, a.Value.N, a.Value.B)
			}
		}
		return s
	}
	return plainly(a) == plainly(b)
}

// num is a number from 0 on as bytes.
func num(n int) []byte {
	b, e := digits.U(n)
	if e != api.OK {
		panic(e)
	}
	return b
}

// str is a text as bytes.
func str(s string) []byte {
	b, e := digits.Text(s)
	if e != api.OK {
		panic(e)
	}
	return b
}

// toldSpan are a span's bytes by other means, also of one that may not be, as far as there are bytes for what it has (it panics else).
func toldSpan(s api.Span) []byte {
	list := num(len(s.Attrs))
	for _, a := range s.Attrs {
		var v []byte
		switch a.Value.Kind {
		case api.KindInt:
			n, e := digits.S(a.Value.N)
			if e != api.OK {
				panic(e)
			}
			v = n
		case api.KindBytes:
			v = str(a.Value.B)
		default:
			v = num(a.Value.N)
		}
		list = slices.Concat(list, str(a.Name), num(a.Label.Level), num(int(a.Label.Parts)), num(a.Value.Kind), v)
	}
	return slices.Concat(num(s.Trace), num(s.ID), num(s.Parent), num(s.Start), num(s.Length), str(s.Service), str(s.Op), str(s.Subject), list)
}

// told are a batch's bytes by other means, also of one that may not be.
func told(b api.Batch) []byte {
	x := slices.Concat(num(b.Agent), num(b.Seq), num(len(b.Spans)))
	for _, s := range b.Spans {
		x = append(x, toldSpan(s)...)
	}
	return x
}

// tellable are the bytes of a batch that may not be; false, if there are none for what it has.
func tellable(b api.Batch) (x []byte, ok bool) {
	defer func() {
		if recover() != nil {
			ok = false
		}
	}()
	for _, s := range b.Spans {
		// Of these the bytes are those of another value.
		for _, a := range s.Attrs {
			if a.Value.Kind == 2 && a.Value.N != 0 {
				return nil, false
			}
		}
	}
	return told(b), true
}

// isNone holds that bytes are none of a batch.
func isNone(t *testing.T, which int, b []byte) {
	t.Helper()
	if x, e := batch.Parse(b); e != api.ErrBatch || !alike(x, api.Batch{}) {
		t.Errorf("%d: %.100x: %.300v, %v", which, b, x, e)
	}
}

// holds holds a batch that may be to its bytes, both ways.
func holds(t *testing.T, b api.Batch) {
	t.Helper()
	x, e := batch.Bytes(b)
	if e != api.OK || string(x) != string(told(b)) {
		t.Fatalf("%.300v: %.300x, %v", b, x, e)
	}
	back, e := batch.Parse(x)
	if e != api.OK || !alike(back, b) || !batch.Same(back, b) || !batch.Same(b, back) {
		t.Fatalf("%.300v is read as %.300v, %v", b, back, e)
	}
}

// drawnText is a text of few kinds of letters, of at most so many.
func drawnText(draw *rand.Rand, letters string, most int) string {
	b := make([]byte, draw.Intn(most+1)>>draw.Intn(6))
	for i := range b {
		b[i] = letters[draw.Intn(len(letters))]
	}
	return string(b)
}

// drawnName is a name.
func drawnName(draw *rand.Rand) string {
	return string("abz"[draw.Intn(3)]) + drawnText(draw, "az09.-", api.MaxName-1)
}

// drawnNumber is one from a least to a greatest one; great ones are as often as small ones.
func drawnNumber(draw *rand.Rand, least, most int) int {
	return least + draw.Intn(most-least+1)>>draw.Intn(54)
}

// drawnSpan is a span that may be.
func drawnSpan(draw *rand.Rand) api.Span {
	s := api.Span{Trace: drawnNumber(draw, 1, api.MaxNumber), ID: drawnNumber(draw, 1, api.MaxNumber), Parent: drawnNumber(draw, 0, api.MaxNumber), Service: drawnName(draw), Op: drawnName(draw), Start: drawnNumber(draw, 0, api.MaxNumber), Subject: drawnText(draw, "u\x00\xff", api.MaxBytes)}
	s.Length = drawnNumber(draw, 0, api.MaxNumber-s.Start)
	for n := range draw.Intn(api.MaxAttrs + 1) {
		v := api.Value{Kind: 1 + draw.Intn(3)}
		switch v.Kind {
		case 1:
			v.N = drawnNumber(draw, 0, api.MaxNumber) * (1 - 2*draw.Intn(2))
		case 2:
			v.B = drawnText(draw, "v\x00", api.MaxBytes)
		case 3:
			v.N = draw.Intn(2)
		}
		s.Attrs = append(s.Attrs, api.Attr{Name: string(rune('a'+n)) + drawnText(draw, "a.9", api.MaxName-1), Label: api.Label{Level: draw.Intn(8), Parts: draw.Uint32() >> draw.Intn(33)}, Value: v})
	}
	return s
}

// drawnBatch is a batch all of whose spans may be; a few of them have too many bytes.
func drawnBatch(draw *rand.Rand) api.Batch {
	b := of(1+draw.Intn(16), drawnNumber(draw, 1, api.MaxNumber))
	full := fullest().Spans[:draw.Intn(16)>>draw.Intn(6)]
	for range 1 + draw.Intn(16-len(full)) {
		b.Spans = append(b.Spans, drawnSpan(draw))
	}
	b.Spans = append(b.Spans, full...)
	draw.Shuffle(len(b.Spans), func(i, j int) { b.Spans[i], b.Spans[j] = b.Spans[j], b.Spans[i] })
	return b
}

// parsed is what a second reader reads, that looks at each field as it comes.
func parsed(b []byte) (x api.Batch, ok bool) {
	if len(b) > 8192 {
		return x, false
	}
	r := digits.New(b)
	from := func(least, most int) int {
		n := r.U()
		ok = ok && r.Err() == api.OK && n >= least && n <= most
		return n
	}
	name := func() string {
		s := r.Text(24)
		ok = ok && r.Err() == api.OK && s != "" && strings.Trim(s, "abcdefghijklmnopqrstuvwxyz0123456789.-") == "" && s[0] >= 'a' && s[0] <= 'z'
		for i := range len(s) {
			ok = ok && strings.Contains("abcdefghijklmnopqrstuvwxyz0123456789.-", s[i:i+1])
		}
		return s
	}
	ok = true
	y := api.Batch{Agent: from(1, 16), Seq: from(1, 1<<53-1)}
	n := from(1, 16)
	for range n {
		if !ok {
			return x, false
		}
		s := api.Span{Trace: from(1, 1<<53-1), ID: from(1, 1<<53-1), Parent: from(0, 1<<53-1), Start: from(0, 1<<53-1)}
		if !ok {
			return x, false
		}
		s.Length = from(0, 1<<53-1-s.Start)
		s.Service, s.Op = name(), name()
		s.Subject = r.Text(64)
		s.Attrs = value.TakeAttrs(r)
		ok = ok && r.Err() == api.OK
		y.Spans = append(y.Spans, s)
	}
	if !ok || r.Left() != 0 {
		return x, false
	}
	return y, true
}
