// Package text: programs as text: see doc/02-text.md.
package text

import (
	"strconv"
	"strings"

	"hoistway/api"
	"hoistway/prog"
	"hoistway/shape"
)

// More bytes than any line that is shown has, and any program: what is longer need not be looked at.
const (
	maxLine = 64
	maxText = maxLine * (1 + api.MaxNodes)
)

const regsWord = "regs"

// Show answers the program as text.
func Show(p api.Prog) (string, api.Errno) {
	if e := prog.Check(p); e != api.OK {
		return "", e
	}
	names := nameTable()
	var b strings.Builder
	b.WriteString(regsWord + " " + strconv.Itoa(p.Regs) + "\n")
	for _, n := range p.Nodes {
		b.WriteString(showNode(n, names[n.Op]) + "\n")
	}
	return b.String(), api.OK
}

// Read answers the program that is shown as s.
func Read(s string) (api.Prog, api.Errno) {
	p, ok := readLoosely(s)
	if !ok {
		return api.Prog{}, api.ErrForm
	}
	// Held against what is shown of it, nothing else can be read, however loose the reading is.
	if shown, e := Show(p); e != api.OK || shown != s {
		return api.Prog{}, api.ErrForm
	}
	return p, api.OK
}

// operations has the operations by their names.
func operations() map[string]int {
	return map[string]int{
		"skip": api.Skip,
		"set":  api.Set,
		"copy": api.Copy,
		"add":  api.Add,
		"sub":  api.Sub,
		"mul":  api.Mul,
		"and":  api.And,
		"xor":  api.Xor,
		"less": api.Less,
		"in":   api.In,
		"out":  api.Out,
		"if":   api.If,
		"end":  api.End,
	}
}

// nameTable is made out of the map, so that the names stand in one place alone.
func nameTable() [api.End + 1]string {
	var names [api.End + 1]string
	for name, op := range operations() {
		names[op] = name
	}
	return names
}

// leadWord answers the word that stands ahead of a field's number, if one does.
func leadWord(field int) string {
	switch field {
	case shape.Then:
		return "to"
	case shape.Else:
		return "else"
	}
	return ""
}

func showNode(n api.Node, name string) string {
	words := []string{name}
	kinds, _ := shape.Of(n.Op)
	for i, v := range shape.Values(n) {
		if kinds[i] == shape.None {
			continue
		}
		if w := leadWord(i); w != "" {
			words = append(words, w)
		}
		words = append(words, strconv.Itoa(v))
	}
	return strings.Join(words, " ")
}

// readLoosely reads every text that is shown, and some others too.
func readLoosely(s string) (api.Prog, bool) {
	if len(s) > maxText {
		return api.Prog{}, false
	}
	lines := strings.Split(strings.TrimSuffix(s, "\n"), "\n")
	count, ok := strings.CutPrefix(lines[0], regsWord+" ")
	regs, err := strconv.Atoi(count)
	if !ok || err != nil {
		return api.Prog{}, false
	}
	p := api.Prog{Regs: regs}
	ops := operations()
	for _, line := range lines[1:] {
		n, ok := readNode(line, ops)
		if !ok {
			return api.Prog{}, false
		}
		p.Nodes = append(p.Nodes, n)
	}
	return p, true
}

func readNode(line string, ops map[string]int) (api.Node, bool) {
	words := strings.Split(line, " ")
	op, ok := ops[words[0]]
	if !ok {
		return api.Node{}, false
	}
	at := 1
	var values [shape.Fields]int
	kinds, _ := shape.Of(op)
	for i, k := range kinds {
		if k == shape.None {
			continue
		}
		if leadWord(i) != "" {
			at++
		}
		if at >= len(words) {
			return api.Node{}, false
		}
		v, err := strconv.Atoi(words[at])
		if err != nil {
			return api.Node{}, false
		}
		values[i] = v
		at++
	}
	return shape.Node(op, values), true
}
