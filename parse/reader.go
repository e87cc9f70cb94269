package parse

import "timebound/api"

// reader reads a program from left to right. Behind an error it takes no token, so that whoever reads on comes to an end.
type reader struct {
	list []api.Token
	at   int // the next token
	err  api.Errno
	line int // of the error
}

// next returns the next token without taking it; one that is nothing in the grammar if there is none.
func (r *reader) next() api.Token {
	if r.err != api.OK || r.at == len(r.list) {
		return api.Token{}
	}
	return r.list[r.at]
}

// accept takes the next token if it is this sign or keyword.
func (r *reader) accept(word string) bool {
	if !is(r.next(), word) {
		return false
	}
	r.at++
	return true
}

// expect takes this sign or keyword.
func (r *reader) expect(word string) {
	if !r.accept(word) {
		r.fail()
	}
}

// name takes a NAME.
func (r *reader) name() string {
	t := r.next()
	if !named(t) {
		r.fail()
		return ""
	}
	r.at++
	return t.Text
}

// num takes a NUM.
func (r *reader) num() int {
	t := r.next()
	if t.Kind != api.TokenNum {
		r.fail()
		return 0
	}
	r.at++
	return t.Num
}

// number takes a NUM, with or without a minus.
func (r *reader) number() int {
	if r.accept("-") {
		return -r.num()
	}
	return r.num()
}

// after takes a keyword and the NUM behind it.
func (r *reader) after(keyword string) int {
	r.expect(keyword)
	return r.num()
}

// fail says that the next token cannot follow.
func (r *reader) fail() { r.stop(api.ErrText, r.here()) }

// stop keeps an error, if it is the first one.
func (r *reader) stop(e api.Errno, line int) {
	if r.err == api.OK {
		r.err, r.line = e, line
	}
}

// here returns the line of the next token, of the last one if there is none.
func (r *reader) here() int {
	if len(r.list) == 0 {
		return 1
	}
	return r.list[min(r.at, len(r.list)-1)].Line
}

// is reports whether a token is a sign or keyword. Kinds of tokens that are no numbers are not told apart: tokens need not be those of a text.
func is(t api.Token, word string) bool {
	return t.Kind != api.TokenNum && t.Text == word
}

// named reports whether a token is a NAME.
func named(t api.Token) bool { return t.Kind == api.TokenName && !keyword(t.Text) }

// keyword reports whether a word is a keyword.
func keyword(word string) bool {
	switch word {
	case "resource", "shared", "task", "period", "deadline", "priority", "jitter",
		"input", "var", "array", "mode", "never", "body", "end",
		"if", "else", "while", "max", "label", "lock":
		return true
	}
	return false
}
