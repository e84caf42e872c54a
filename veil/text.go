package veil

import (
	"strings"

	"muslin/api"
)

const (
	figures    = "0123456789abcdef"
	levelBits  = 3 // that a figure of a level stands for
	partsBits  = 4 // that a figure of the compartments stands for
	levelWidth = 1 // figures of a level
	partsWidth = 8 // figures of the compartments
	parting    = ":"
)

// Text tells a label as a text; "", if it may not be.
func Text(l api.Label) string {
	if Check(l) != api.OK {
		return ""
	}
	level := written(uint32(l.Level), levelBits, levelWidth)
	if l.Parts == 0 {
		return level
	}
	return level + parting + written(l.Parts, partsBits, partsWidth)
}

// Read is the label of a text.
func Read(s string) (api.Label, api.Errno) {
	head, tail, parted := strings.Cut(s, parting)
	level, ok := read(head, levelBits, levelWidth)
	if !ok {
		return api.Label{}, api.ErrSyntax
	}
	if !parted {
		return api.Label{Level: int(level)}, api.OK
	}
	parts, ok := read(tail, partsBits, partsWidth)
	// No compartments are not written, so that each label has one text.
	if !ok || parts == 0 {
		return api.Label{}, api.ErrSyntax
	}
	return api.Label{Level: int(level), Parts: parts}, api.OK
}

// written tells a number in so many figures, each of which stands for so many bits.
func written(n uint32, bits, width int) string {
	text := make([]byte, width)
	for i := range text {
		text[i] = figures[n>>(bits*(width-1-i))&(1<<bits-1)]
	}
	return string(text)
}

// read is the way back from written; false, if s is nothing that it tells.
func read(s string, bits, width int) (uint32, bool) {
	if len(s) != width {
		return 0, false
	}
	worth := func(figure rune) int {
		return strings.IndexRune(figures[:1<<bits], figure)
	}
	var n uint32
	for _, figure := range s {
		at := worth(figure)
		if at < 0 {
			return 0, false
		}
		n = n<<bits | uint32(at)
	}
	return n, true
}
