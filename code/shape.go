package code

// What an op's A is a number of.
const (
	ofNothing = iota // it has none
	ofConst
	ofInt
	ofStr
	ofName
	ofLocal
	ofCell
	ofFunc
	ofOp // it may go on there
	ofValues
	kindsOfA
)

// A shape is what all ops of a name have in common.
type shape struct {
	a           int
	takes, puts int
	each        int  // what it takes beside, times A
	far         int  // what it puts if it goes on at A
	stops       bool // it does not go on behind itself
}

func shapes() map[string]shape {
	one := shape{takes: 1, puts: 1}
	two := shape{takes: 2, puts: 1}
	return map[string]shape{
		"const":   {a: ofConst, puts: 1},
		"int":     {a: ofInt, puts: 1},
		"str":     {a: ofStr, puts: 1},
		"load":    {a: ofLocal, puts: 1},
		"store":   {a: ofLocal, takes: 1},
		"cell":    {a: ofCell, puts: 1},
		"fill":    {a: ofCell, takes: 1},
		"global":  {a: ofName, puts: 1},
		"name":    {a: ofName, takes: 1},
		"neg":     one,
		"not":     one,
		"add":     two,
		"sub":     two,
		"mul":     two,
		"div":     two,
		"mod":     two,
		"eq":      two,
		"ne":      two,
		"lt":      two,
		"le":      two,
		"gt":      two,
		"ge":      two,
		"is":      two,
		"in":      two,
		"call":    {a: ofValues, takes: 1, each: 1, puts: 1},
		"index":   two,
		"put":     {takes: 3},
		"del":     {takes: 2},
		"list":    {a: ofValues, each: 1, puts: 1},
		"dict":    {a: ofValues, each: 2, puts: 1},
		"closure": {a: ofFunc, puts: 1},
		"take":    {a: ofCell},
		"pop":     {takes: 1},
		"dup":     {takes: 1, puts: 2},
		"jump":    {a: ofOp, stops: true},
		"unless":  {a: ofOp, takes: 1},
		"iter":    one,
		"next":    {a: ofOp, takes: 1, puts: 2},
		"try":     {a: ofOp, far: 1},
		"end":     {},
		"raise":   {takes: 1, stops: true},
		"return":  {takes: 1, stops: true},
		"step":    {},
		"halt":    {stops: true},
	}
}
