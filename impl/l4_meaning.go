package impl

import "slices"

const FuelMax = 100000

const (
	EvBad   = 0
	EvDone  = 1
	EvFuel  = 2
	EvUndef = 3
)

type EvalRes struct {
	Status int64
	Out    []int64
	Exit   int64
	Used   int64
	Deep   int64
}

func Apply(op int64, a int64, b int64) int64 {
	x, y := int32(a), int32(b)
	shift := uint32(y) % 32
	switch op {
	case BinMul:
		return int64(x * y)
	case BinDiv:
		return int64(divide(x, y))
	case BinRem:
		return int64(remainder(x, y))
	case BinAdd:
		return int64(x + y)
	case BinSub:
		return int64(x - y)
	case BinShl:
		return int64(x << shift)
	case BinShr:
		return int64(x >> shift)
	case BinLt:
		return truth(x < y)
	case BinLe:
		return truth(x <= y)
	case BinGt:
		return truth(x > y)
	case BinGe:
		return truth(x >= y)
	case BinEq:
		return truth(x == y)
	case BinNe:
		return truth(x != y)
	case BinAnd:
		return int64(x & y)
	case BinXor:
		return int64(x ^ y)
	case BinOr:
		return int64(x | y)
	}
	return 0
}

// node is an expression: a node with its operands, which are evaluated from left to right.
type node interface {
	operands() []node
}

type (
	numNode struct{ val int64 }

	varNode struct{ name string }

	indexNode struct {
		name string
		at   node
	}

	callNode struct {
		name string
		args []node
	}

	inNode struct{}

	unNode struct {
		op int64
		x  node
	}

	binNode struct {
		op   int64
		x, y node
	}

	andNode struct{ x, y node }

	orNode struct{ x, y node }
)

func (n numNode) operands() []node   { return nil }
func (n varNode) operands() []node   { return nil }
func (n indexNode) operands() []node { return []node{n.at} }
func (n callNode) operands() []node  { return n.args }
func (n inNode) operands() []node    { return nil }
func (n unNode) operands() []node    { return []node{n.x} }
func (n binNode) operands() []node   { return []node{n.x, n.y} }
func (n andNode) operands() []node   { return []node{n.x, n.y} }
func (n orNode) operands() []node    { return []node{n.x, n.y} }

// nodeOf gives what a valid node is with these operands.
func nodeOf(n Node, operands []node) node {
	switch n.Kind {
	case ENum:
		return numNode{n.Val}
	case EVar:
		return varNode{n.Name}
	case EIndex:
		return indexNode{n.Name, operands[0]}
	case ECall:
		return callNode{n.Name, operands}
	case EUn:
		return unNode{n.Val, operands[0]}
	case EBin:
		return binNode{n.Val, operands[0], operands[1]}
	case EAnd:
		return andNode{operands[0], operands[1]}
	case EOr:
		return orNode{operands[0], operands[1]}
	}
	return inNode{}
}

// raised makes an expression of its list, bottom up, each node by build: the operands of
// a node are the expressions that were made last.
func raised(e []Node, build func(n Node, operands []node) node) node {
	var whole []node
	for _, n := range e {
		first := len(whole) - int(operandCount(n))
		operands := slices.Clone(whole[first:])
		whole = append(whole[:first], build(n, operands))
	}
	return whole[0]
}

// statement is a statement with its blocks, and with the expressions that are evaluated,
// from left to right, whenever it is come to.
type statement interface {
	expressions() []node
}

type (
	declStmt struct {
		name string
		e    node
	}

	setStmt struct {
		name string
		e    node
	}

	storeStmt struct {
		name  string
		at, e node
	}

	ifStmt struct {
		e           node
		then, other []statement
	}

	whileStmt struct {
		e    node
		body []statement
	}

	returnStmt struct{ e node }

	outStmt struct{ e node }

	callStmt struct{ e node }
)

func (s declStmt) expressions() []node   { return []node{s.e} }
func (s setStmt) expressions() []node    { return []node{s.e} }
func (s storeStmt) expressions() []node  { return []node{s.at, s.e} }
func (s ifStmt) expressions() []node     { return []node{s.e} }
func (s whileStmt) expressions() []node  { return []node{s.e} }
func (s returnStmt) expressions() []node { return []node{s.e} }
func (s outStmt) expressions() []node    { return []node{s.e} }
func (s callStmt) expressions() []node   { return []node{s.e} }

// statementOf gives what a valid statement is with these blocks.
func statementOf(s Stmt, then, other []statement) statement {
	e := raised(s.E, nodeOf)
	switch s.Kind {
	case SDecl:
		return declStmt{s.Name, e}
	case SSet:
		return setStmt{s.Name, e}
	case SStore:
		return storeStmt{s.Name, e, raised(s.F, nodeOf)}
	case SIf:
		return ifStmt{e, then, other}
	case SWhile:
		return whileStmt{e, then}
	case SReturn:
		return returnStmt{e}
	case SOut:
		return outStmt{e}
	}
	return callStmt{e}
}

// blockOf gives the statements of a block, each with those that stand within it.
func blockOf(body []Stmt) []statement {
	var block []statement
	for len(body) > 0 {
		s, rest := body[0], body[1:]
		inner := s.Then + s.Else
		block = append(block, statementOf(s, blockOf(rest[:s.Then]), blockOf(rest[s.Then:inner])))
		body = rest[inner:]
	}
	return block
}

// How a statement or an expression ends: it goes on behind it, a while is looked at
// again, or it ends the function or the whole program.
const (
	goesOn = iota
	again
	returned
	noFuel
	noElement
)

// outcome is how a statement or an expression ends, with the value that an expression or
// a return gives.
type outcome struct {
	end int
	val int64
}

// evaluation is a run of a sound tree. The words of the globals stand under their names,
// a single word being an array of one; vars are those of the function that runs.
type evaluation struct {
	tree    Tree
	numbers map[string]int64
	bodies  [][]statement
	globals map[string][]int64
	vars    map[string]int64
	in      []int64
	out     []int64
	fuel    int64
	frames  []int64
	active  int64
	deep    int64
}

func newEvaluation(t Tree, in []int64, fuel int64, frames []int64) *evaluation {
	r := evaluation{tree: t, numbers: functionNumbers(t), in: in, fuel: fuel, frames: frames}
	r.globals = map[string][]int64{}
	for _, g := range t.Globals {
		r.globals[g.Name] = make([]int64, max(g.Size, 1))
	}
	for _, f := range t.Funcs {
		r.bodies = append(r.bodies, blockOf(f.Body))
	}
	return &r
}

// burn uses 1 of fuel, and says whether there was any.
func (r *evaluation) burn() bool {
	if r.fuel == 0 {
		return false
	}
	r.fuel--
	return true
}

func (r *evaluation) set(name string, val int64) {
	if words, there := r.globals[name]; there {
		words[0] = val
	} else {
		r.vars[name] = val
	}
}

func (r *evaluation) get(name string) int64 {
	if words, there := r.globals[name]; there {
		return words[0]
	}
	return r.vars[name]
}

// element gives the place of an array's word, or nil if it has none of this index.
func (r *evaluation) element(name string, at int64) *int64 {
	words := r.globals[name]
	if at < 0 || at >= int64(len(words)) {
		return nil
	}
	return &words[at]
}

func (r *evaluation) nextInput() int64 {
	if len(r.in) == 0 {
		return 0
	}
	val := r.in[0]
	r.in = r.in[1:]
	return val
}

func (r *evaluation) call(f int64, args []int64) outcome {
	outer := r.vars
	r.vars = map[string]int64{}
	for i, name := range r.tree.Funcs[f].Params {
		r.vars[name] = args[i]
	}
	r.active += r.frames[f]
	r.deep = max(r.deep, r.active)
	o := r.block(r.bodies[f])
	r.active -= r.frames[f]
	r.vars = outer
	if o.end == returned {
		o.end = goesOn
	}
	return o
}

func (r *evaluation) block(block []statement) outcome {
	for _, s := range block {
		o := outcome{end: again}
		for o.end == again {
			o = r.statement(s)
		}
		if o.end != goesOn {
			return o
		}
	}
	return outcome{}
}

// statement runs a statement; a while is looked at once.
func (r *evaluation) statement(s statement) outcome {
	if !r.burn() {
		return outcome{end: noFuel}
	}
	vals, end := r.values(s.expressions())
	if end != goesOn {
		return outcome{end: end}
	}
	switch s := s.(type) {
	case declStmt:
		r.set(s.name, vals[0])
	case setStmt:
		r.set(s.name, vals[0])
	case storeStmt:
		word := r.element(s.name, vals[0])
		if word == nil {
			return outcome{end: noElement}
		}
		*word = vals[1]
	case ifStmt:
		if vals[0] != 0 {
			return r.block(s.then)
		}
		return r.block(s.other)
	case whileStmt:
		if vals[0] != 0 {
			return r.turn(s)
		}
	case returnStmt:
		return outcome{returned, vals[0]}
	case outStmt:
		r.out = append(r.out, vals[0])
	}
	return outcome{}
}

// turn runs the block of a while, which is looked at again if nothing ends it.
func (r *evaluation) turn(s whileStmt) outcome {
	o := r.block(s.body)
	if o.end == goesOn {
		o.end = again
	}
	return o
}

// values evaluates expressions from left to right, up to the first that does not go on.
func (r *evaluation) values(list []node) (vals []int64, end int) {
	for _, n := range list {
		o := r.value(n)
		if o.end != goesOn {
			return nil, o.end
		}
		vals = append(vals, o.val)
	}
	return vals, goesOn
}

func (r *evaluation) value(n node) outcome {
	switch n := n.(type) {
	case andNode:
		return r.choice(n.x, n.y, true)
	case orNode:
		return r.choice(n.x, n.y, false)
	}
	vals, end := r.values(n.operands())
	if end != goesOn {
		return outcome{end: end}
	}
	if !r.burn() {
		return outcome{end: noFuel}
	}
	return r.work(n, vals)
}

// work does what a node does with the values of its operands.
func (r *evaluation) work(n node, vals []int64) outcome {
	switch n := n.(type) {
	case numNode:
		return outcome{val: n.val}
	case varNode:
		return outcome{val: r.get(n.name)}
	case indexNode:
		word := r.element(n.name, vals[0])
		if word == nil {
			return outcome{end: noElement}
		}
		return outcome{val: *word}
	case callNode:
		return r.call(r.numbers[n.name], vals)
	case inNode:
		return outcome{val: r.nextInput()}
	case unNode:
		return outcome{val: applyUnary(n.op, vals[0])}
	case binNode:
		return outcome{val: Apply(n.op, vals[0], vals[1])}
	}
	return outcome{}
}

// choice evaluates EAnd and EOr: the right one is looked at if the left one is true, or
// if it is false, as onTrue says. So the one looked at last is what the answer hangs on.
func (r *evaluation) choice(left, right node, onTrue bool) outcome {
	o := r.truthOf(left)
	if o.end != goesOn || (o.val != 0) != onTrue {
		return o
	}
	return r.truthOf(right)
}

// truthOf evaluates a side of EAnd or EOr, which uses 1 of fuel behind each.
func (r *evaluation) truthOf(side node) outcome {
	o := r.value(side)
	if o.end != goesOn {
		return o
	}
	if !r.burn() {
		return outcome{end: noFuel}
	}
	return outcome{val: truth(o.val != 0)}
}

// applyUnary gives what a unary operator makes of a word.
func applyUnary(op int64, v int64) int64 {
	switch op {
	case UnNeg:
		return wrapped(-v)
	case UnNot:
		return truth(v == 0)
	}
	return ^v
}

func sound(t Tree) bool { return check(t) == nil }

func validFrames(t Tree, frames []int64) bool {
	if len(frames) != len(t.Funcs) {
		return false
	}
	for _, size := range frames {
		if size < 0 || size > BoundMax {
			return false
		}
	}
	return true
}

// statusOf gives what is told of the way in which main ended.
func statusOf(end int) int64 {
	switch end {
	case noFuel:
		return EvFuel
	case noElement:
		return EvUndef
	}
	return EvDone
}

func EvalC(t Tree, in []int64, fuel int64, frames []int64) EvalRes {
	if fuel < 0 || fuel > FuelMax || !validInput(in) || !validFrames(t, frames) || !sound(t) {
		return EvalRes{}
	}
	r := newEvaluation(t, in, fuel, frames)
	o := r.call(r.numbers["main"], nil)
	return EvalRes{Status: statusOf(o.end), Out: r.out, Exit: o.val, Used: fuel - r.fuel, Deep: r.deep}
}
