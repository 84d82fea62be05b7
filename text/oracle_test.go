package text_test

import (
	"regexp"
	"slices"
	"strings"
)

// grammar is that of the chapter, one alternative a line. The choices are in it: a term that an atom may begin with is a "first", and a bracket that is looked at there is "(t" or "{t" if a sign that only terms have on their left stands behind the one that matches it, "(f" or "{f" if something else does, and neither if there is none.
const grammar = `
formula implied
formula implied <-> formula
implied either
implied either -> implied
either both
either either | both
both prefix
both both & prefix
prefix ! prefix
prefix forall name . prefix
prefix exists name . prefix
prefix [ program ] prefix
prefix <| program |> prefix
prefix atom
atom true
atom false
atom @ ( formula )
atom (f formula )
atom plain (f )
atom plain (f term )
atom plain {f }
atom first comparison term
comparison =
comparison !=
comparison <
comparison <=
comparison >
comparison >=
first firstproduct
first first + product
first first - product
firstproduct firstfactor
firstproduct firstproduct * factor
firstproduct firstproduct / factor
firstfactor - factor
firstfactor firstprimary
firstfactor firstprimary ^ number
firstprimary number
firstprimary plain
firstprimary plain '
firstprimary plain (t )
firstprimary plain (t term )
firstprimary plain {t }
firstprimary (t term )
firstprimary (t term ) '
firstprimary _
term product
term term + product
term term - product
product factor
product product * factor
product product / factor
factor - factor
factor primary
factor primary ^ number
primary number
primary name
primary name '
primary name ( )
primary name ( term )
primary name { }
primary ( term )
primary ( term ) '
primary _
program sequence
program program ++ sequence
sequence step
sequence sequence ; step
step name := *
step name := term
step name ' := term
step ? formula
step name
step name !
step { program }
step { program } *
step { program } @
step { equations & formula }
equations equation
equations equations , equation
equation name ' = term
equation name ..
`

// rules are the right sides of the alternatives, by their left sides.
var rules = func() map[string][][]string {
	all := map[string][][]string{}
	for _, line := range strings.Split(strings.TrimSpace(grammar), "\n") {
		parts := strings.Fields(line)
		all[parts[0]] = append(all[parts[0]], parts[1:])
	}
	return all
}()

// lexeme is a token of the oracle: its offset, its text, and the terminals of the grammar that it can be.
type lexeme struct {
	at        int
	text      string
	terminals []string
}

var (
	blanks = regexp.MustCompile(`^([ \t\n]|#[^\n]*)*`)
	tokens = regexp.MustCompile(`^([a-zA-Z][a-zA-Z0-9]*|[0-9]+|<->|<\||\|>|<=|>=|!=|->|:=|\+\+|\.\.|[][(){}+*/^'=<>!&|,;?@_.-])`)
)

// lexemes returns the tokens of a text.
func lexemes(s string) []lexeme {
	var list []lexeme
	at := len(blanks.FindString(s))
	for at < len(s) {
		found := tokens.FindString(s[at:])
		if found == "" {
			found = s[at : at+1] // illegal
		}
		list = append(list, lexeme{at: at, text: found})
		at += len(found)
		at += len(blanks.FindString(s[at:]))
	}
	for i := range list {
		list[i].terminals = terminals(list, i)
	}
	return list
}

func terminals(list []lexeme, i int) []string {
	s := list[i].text
	switch {
	case s == "(" || s == "{":
		return append([]string{s}, choice(list, i)...)
	case slices.Contains([]string{"true", "false", "forall", "exists"}, s):
		return []string{"name", s}
	case s[0] >= '0' && s[0] <= '9':
		if len(s) > 200 {
			return nil
		}
		return []string{"number"}
	case tokens.FindString(s) == "":
		return nil
	case s[0] >= 'a' && s[0] <= 'z' || s[0] >= 'A' && s[0] <= 'Z':
		return []string{"name", "plain"}
	}
	return []string{s}
}

// choice returns what an opening bracket is where it is looked at.
func choice(list []lexeme, i int) []string {
	var open []string
	for k := i; k < len(list); k++ {
		switch s := list[k].text; s {
		case "(", "[", "{":
			open = append(open, s)
		case ")", "]", "}":
			if open[len(open)-1]+s != "()" && open[len(open)-1]+s != "[]" && open[len(open)-1]+s != "{}" {
				return nil
			}
			open = open[:len(open)-1]
		}
		if len(open) > 0 {
			continue
		}
		if k+1 < len(list) && slices.Contains(strings.Fields("' + - * / ^ = != < <= > >="), list[k+1].text) {
			return []string{list[i].text + "t"}
		}
		return []string{list[i].text + "f"}
	}
	return nil
}

// item is a rule with a dot in it, and the place where it begins.
type item struct {
	left  string
	right int
	dot   int
	from  int
}

// chart is the sets of items of Earley's recognizer.
type chart struct {
	sets []([]item)
	seen []map[item]bool
}

func (c *chart) add(place int, i item) {
	if !c.seen[place][i] {
		c.seen[place][i] = true
		c.sets[place] = append(c.sets[place], i)
	}
}

// wrong returns the offset of the first token that cannot follow, or -1 if the text follows the grammar. No rule of it is empty.
func wrong(s string, sort int) int {
	list := lexemes(s)
	c := &chart{make([][]item, len(list)+1), make([]map[item]bool, len(list)+1)}
	for i := range c.seen {
		c.seen[i] = map[item]bool{}
	}
	start := []string{term: "term", formula: "formula", program: "program"}[sort]
	for k := range rules[start] {
		c.add(0, item{start, k, 0, 0})
	}
	for place := range c.sets {
		c.fill(place, list)
		if place < len(list) && len(c.sets[place+1]) == 0 {
			return list[place].at
		}
	}
	for _, i := range c.sets[len(list)] {
		if i.left == start && i.from == 0 && i.dot == len(rules[start][i.right]) {
			return -1
		}
	}
	return len(s)
}

// fill completes the set of a place and begins that of the next one.
func (c *chart) fill(place int, list []lexeme) {
	for k := 0; k < len(c.sets[place]); k++ {
		i := c.sets[place][k]
		right := rules[i.left][i.right]
		if i.dot == len(right) {
			for _, waiting := range c.sets[i.from] {
				side := rules[waiting.left][waiting.right]
				if waiting.dot < len(side) && side[waiting.dot] == i.left {
					waiting.dot++
					c.add(place, waiting)
				}
			}
			continue
		}
		symbol := right[i.dot]
		for n := range rules[symbol] {
			c.add(place, item{symbol, n, 0, place})
		}
		if place < len(list) && slices.Contains(list[place].terminals, symbol) {
			i.dot++
			c.add(place+1, i)
		}
	}
}
