package texts

// wrong is what a reader panics with when the current token is one with which no text goes on.
const wrong = "wrong token"

// Reader reads a text token by token; Now is the current one, the first that has not been taken.
type Reader struct {
	Now    Token
	text   string
	tokens Tokens
}

// Reader returns a reader of a text with such tokens.
func (l Tokens) Reader(text string) Reader {
	return Reader{Now: l.Scan(text, 0), text: text, tokens: l}
}

// Reads calls read, and reports whether all that it asked of tokens was right; otherwise the current one is wrong.
func (r *Reader) Reads(read func()) (right bool) {
	defer func() { right = recover() == nil }()
	read()
	return true
}

// Require leaves Reads unless the current token is right.
func (r *Reader) Require(right bool) {
	if !right {
		panic(wrong)
	}
}

// Take takes the current token, whatever it is.
func (r *Reader) Take() Token {
	t := r.Now
	r.Now = r.tokens.Scan(r.text, t.At+len(t.Text))
	return t
}

// Accept takes the current token, if this is its text.
func (r *Reader) Accept(text string) bool {
	if r.Now.Text != text {
		return false
	}
	r.Take()
	return true
}

// Expect takes the current token, whose text has to be this one.
func (r *Reader) Expect(text string) { r.Require(r.Accept(text)) }

// ExpectEnd requires that there is no token any more.
func (r *Reader) ExpectEnd() { r.Require(r.Now.Kind == End) }

// Integer takes an integer, which has to be from low to high.
func (r *Reader) Integer(low, high int64) int64 {
	r.Require(r.Now.Kind == Integer && low <= r.Now.Value && r.Now.Value <= high)
	return r.Take().Value
}

// Numbered takes a word that has to consist of a letter and a number from 0 to most.
func (r *Reader) Numbered(letter byte, most int) int {
	n, ok := r.Now.Number(letter, most)
	r.Require(ok)
	r.Take()
	return n
}
