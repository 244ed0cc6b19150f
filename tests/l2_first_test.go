package tests

import (
	"regexp"
	"slices"
	"strconv"
	"strings"
	"testing"

	"loop.example/s01725/impl"
)

// The grammar of the document, as it stands there. A word in capitals is a class of
// tokens; a word in small letters that begins a line is defined there; all else are tokens.
const grammarText = `
program =
program = program global
program = program func
global = int NAME ;
global = int NAME [ NUM ] ;
func = int NAME ( ) block
func = int NAME ( params ) block
params = int NAME
params = params , int NAME
block = { stmts }
stmts =
stmts = stmts stmt
stmt = int NAME = expr ;
stmt = NAME = expr ;
stmt = NAME [ expr ] = expr ;
stmt = NAME ( args ) ;
stmt = if ( expr ) block
stmt = if ( expr ) block else block
stmt = while ( expr ) block
stmt = return expr ;
stmt = out ( expr ) ;
args =
args = list
list = expr
list = list , expr
expr = operand
expr = expr BINARY operand
operand = UNARY operand
operand = NUM
operand = NAME
operand = NAME [ expr ]
operand = NAME ( args )
operand = in ( )
operand = ( expr )
`

type rule struct {
	left  string
	right []string
}

func grammar() []rule {
	var rules []rule
	for line := range strings.Lines(strings.TrimSpace(grammarText)) {
		words := strings.Fields(line)
		rules = append(rules, rule{words[0], words[2:]})
	}
	return rules
}

// piece is a token of a text: its kind is NAME, NUM, bad, end, or the token itself.
type piece struct {
	kind, text string
	at         int64
}

var pieceForm = regexp.MustCompile(`^(?:([a-z_][a-z_0-9]*)|([0-9]+)|(\|\||&&|==|!=|<=|>=|<<|>>|[(){}\[\];,=|^&<>+*/%!~-]))`)

func pieces(text string) []piece {
	var found []piece
	at := 0
	for {
		for at < len(text) && (text[at] == ' ' || text[at] == '\n') {
			at++
		}
		p := piece{"end", "", int64(at)}
		if at < len(text) {
			p = pieceAt(text, at)
		}
		found = append(found, p)
		if p.kind == "end" || p.kind == "bad" {
			return found
		}
		at += len(p.text)
	}
}

func pieceAt(text string, at int) piece {
	m := pieceForm.FindStringSubmatch(text[at:])
	switch {
	case m == nil:
		return piece{"bad", text[at : at+1], int64(at)}
	case m[1] != "":
		return wordPiece(m[1], at)
	case m[2] != "":
		next := text[at+len(m[2]):] + " "
		v, err := strconv.Atoi(m[2])
		if err != nil || v > 2147483647 || strconv.Itoa(v) != m[2] || next[0] == '_' || next[0] >= 'a' && next[0] <= 'z' {
			return piece{"bad", m[2], int64(at)}
		}
		return piece{"NUM", m[2], int64(at)}
	}
	return piece{m[3], m[3], int64(at)}
}

func wordPiece(word string, at int) piece {
	switch {
	case slices.Contains(reserved, word):
		return piece{word, word, int64(at)}
	case len(word) > 20:
		return piece{"bad", word, int64(at)}
	}
	return piece{"NAME", word, int64(at)}
}

// state is a rule of which so many words have been read, begun before a token.
type state struct {
	rule, dot, from int
}

// follower reads tokens one by one and knows, by Earley's way, which may come next.
type follower struct {
	rules []rule
	sets  [][]state
}

func newFollower() *follower {
	f := &follower{rules: grammar()}
	var first []state
	for i, r := range f.rules {
		if r.left == "program" {
			first = append(first, state{i, 0, 0})
		}
	}
	f.close(first)
	return f
}

func (f *follower) wanted(s state) string {
	if right := f.rules[s.rule].right; s.dot < len(right) {
		return right[s.dot]
	}
	return ""
}

// close adds to a set what its states begin and end, and puts it behind the others.
func (f *follower) close(set []state) {
	here := len(f.sets)
	f.sets = append(f.sets, nil)
	add := func(s state) {
		if !slices.Contains(set, s) {
			set = append(set, s)
		}
	}
	for changed := true; changed; {
		before := len(set)
		for i := 0; i < len(set); i++ {
			s := set[i]
			if word := f.wanted(s); word != "" {
				for j, r := range f.rules {
					if r.left == word {
						add(state{j, 0, here})
					}
				}
				continue
			}
			from := f.sets[s.from]
			if s.from == here {
				from = slices.Clone(set)
			}
			for _, outer := range from {
				if f.wanted(outer) == f.rules[s.rule].left {
					add(state{outer.rule, outer.dot + 1, outer.from})
				}
			}
		}
		changed = len(set) > before
	}
	f.sets[here] = set
}

// read takes a token and says as what: itself or its class; "" if it cannot stand here.
func (f *follower) read(p piece) string {
	set := f.sets[len(f.sets)-1]
	classes := []string{p.kind}
	for _, op := range operators {
		if op.symbol == p.kind {
			classes = append(classes, "BINARY")
		}
	}
	if p.kind == "-" || p.kind == "!" || p.kind == "~" {
		classes = append(classes, "UNARY")
	}
	for _, class := range classes {
		var moved []state
		for _, s := range set {
			if f.wanted(s) == class {
				moved = append(moved, state{s.rule, s.dot + 1, s.from})
			}
		}
		if moved != nil {
			f.close(moved)
			return class
		}
	}
	return ""
}

// whole says whether the tokens read are a program.
func (f *follower) whole() bool {
	for _, s := range f.sets[len(f.sets)-1] {
		if s.from == 0 && f.rules[s.rule].left == "program" && f.wanted(s) == "" {
			return true
		}
	}
	return false
}

// opened keeps what is open: brackets, and "UNARY" for an operator.
type opened []string

func (o *opened) wholeOperand() {
	for len(*o) > 0 && (*o)[len(*o)-1] == "UNARY" {
		*o = (*o)[:len(*o)-1]
	}
}

func (o *opened) read(class string, next piece) {
	switch class {
	case "(", "[", "{", "UNARY":
		*o = append(*o, class)
	case ")", "]", "}":
		*o = (*o)[:len(*o)-1]
		o.wholeOperand()
	case "NUM":
		o.wholeOperand()
	case "NAME":
		if next.kind != "[" && next.kind != "(" {
			o.wholeOperand()
		}
	}
}

// firstError gives what the document asks of ParseC, but for limits.
func firstError(text string) (err, at int64) {
	if len(text) > impl.TextMax {
		return impl.SynLong, 0
	}
	f := newFollower()
	var open opened
	ps := pieces(text)
	for i, p := range ps {
		if p.kind == "bad" {
			return impl.SynLex, p.at
		}
		if p.kind == "end" {
			if f.whole() {
				return impl.SynOk, 0
			}
			return impl.SynToken, int64(len(text))
		}
		class := f.read(p)
		switch {
		case class == "":
			return impl.SynToken, p.at
		case len(open) == impl.DepthMax && slices.Contains([]string{"(", "[", "{", "UNARY"}, class):
			return impl.SynNest, p.at
		}
		open.read(class, ps[i+1])
	}
	return -1, -1
}

// checkFirst holds ParseC against firstError.
func checkFirst(t *testing.T, text string) {
	t.Helper()
	r := impl.ParseC([]byte(text))
	err, at := firstError(text)
	if err == impl.SynOk {
		if r.Err == impl.SynLimits && r.At == int64(len(text)) && zeroTree(r.Tree) {
			return
		}
		if r.Err != impl.SynOk || r.At != 0 || !impl.ValidTree(r.Tree) {
			t.Errorf("%.300q: got %d at %d, want none", text, r.Err, r.At)
		}
		return
	}
	if r.Err != err || r.At != at || !zeroTree(r.Tree) {
		t.Errorf("%.300q: got %d at %d, want %d at %d", text, r.Err, r.At, err, at)
	}
}

var tokenPool = []string{
	"int", "if", "else", "while", "return", "in", "out", "a", "f", "x9_", "abcdefghijklmnopqrst", "abcdefghijklmnopqrstu",
	"0", "1", "5", "2147483647", "2147483648", "01", "1x", "0_", "A", "$", "\t",
	"(", ")", "{", "}", "[", "]", ";", ",", "=", "||", "&&", "|", "^", "&", "==", "!=", "<", "<=", ">", ">=", "<<", ">>", "+", "-", "*", "/", "%", "!", "~",
}

// TestParseFirstOfChanged changes good texts by a token or a byte.
func TestParseFirstOfChanged(t *testing.T) {
	n := &numbers{3}
	bases := []string{
		everyText,
		"int g;int f(){return -(1+a[~2])*in();}",
		"int f(int a){while(!a){f(a,1);}if(a){a[1]=2;}else{int b=3;out(b);}return 0;}",
		"int f(){x = " + deep("-(", 14, "1", ")") + ";x = " + deep("f(a[", 14, "- -1", "])") + ";}",
		"int f(){" + deep("if(1){", 25, "x=-(!f(2));", "}") + "}",
	}
	for range 6000 {
		base := bases[n.below(int64(len(bases)))]
		ps := pieces(base)
		at := int(ps[n.below(int64(len(ps)))].at)
		token := tokenPool[n.below(int64(len(tokenPool)))]
		rest := pieces(base[at:])[0].text
		switch n.below(5) {
		case 0:
			checkFirst(t, base[:at]+token+base[at:])
		case 1:
			checkFirst(t, base[:at]+" "+token+" "+base[at:])
		case 2:
			checkFirst(t, base[:at]+" "+base[at+len(rest):])
		case 3:
			checkFirst(t, base[:at]+" "+token+" "+base[at+len(rest):])
		case 4:
			place := n.below(int64(len(base)))
			checkFirst(t, base[:place]+string([]byte{byte(n.below(256))})+base[place+n.below(2):])
		}
	}
}

// TestParseFirstOfGrown puts tokens behind each other, mostly such as can stand there,
// so that deep nests and every place of the grammar are come to.
func TestParseFirstOfGrown(t *testing.T) {
	n := &numbers{5}
	for i := range 300 {
		f := newFollower()
		text := ""
		for range 20 + n.below(150) {
			var can []string
			for _, token := range tokenPool {
				if f.allows(token) {
					can = append(can, token)
				}
			}
			if i%2 == 0 {
				can = deepening(can, n)
			}
			token := can[n.below(int64(len(can)))]
			f.read(pieces(token)[0])
			text += token + []string{" ", "\n"}[n.below(2)]
		}
		checkFirst(t, text)
		checkFirst(t, text+tokenPool[n.below(int64(len(tokenPool)))])
	}
}

// allows says whether the token can come next.
func (f *follower) allows(token string) bool {
	p := pieces(token)[0]
	if p.kind == "bad" || p.kind == "end" {
		return false
	}
	trial := &follower{f.rules, slices.Clone(f.sets)}
	return trial.read(p) != ""
}

// deepening leaves, most times, only tokens that open something.
func deepening(can []string, n *numbers) []string {
	openers := slices.DeleteFunc(slices.Clone(can), func(s string) bool {
		return !slices.Contains([]string{"(", "[", "{", "-", "!", "~", "a", "if"}, s)
	})
	if len(openers) == 0 || n.below(4) == 0 {
		return can
	}
	return openers
}

func TestParseArbitraryBytes(t *testing.T) {
	n := &numbers{7}
	for i := range 3000 {
		var text []byte
		for range n.below(40) {
			c := byte(n.below(256))
			if i%2 == 0 {
				c = "int f(){};=-1a[ \n"[n.below(17)]
			}
			text = append(text, c)
		}
		checkFirst(t, string(text))
	}
	for c := range 256 {
		checkFirst(t, string([]byte{byte(c)}))
		checkFirst(t, "int a"+string([]byte{byte(c)}))
		checkFirst(t, "int f(){return 1"+string([]byte{byte(c)})+"1;}")
		checkFirst(t, "int f(){return a"+string([]byte{byte(c)})+"a;}")
	}
}
