package reader

import (
	"strconv"
	"strings"

	"charts/api"
	"charts/model"
)

const (
	reservedPrefix = "after."
	lastReserved   = 1500
)

// words are what is left of a line that is being read. The line is refused where a word may not stand.
type words struct {
	spot
	left []string
}

func (w *words) next() string {
	if len(w.left) == 0 {
		w.refuse(api.ErrSyntax)
	}
	word := w.left[0]
	w.left = w.left[1:]
	return word
}

// skip takes the next word if it is this one.
func (w *words) skip(word string) bool {
	if len(w.left) == 0 || w.left[0] != word {
		return false
	}
	w.left = w.left[1:]
	return true
}

func (w *words) end() {
	if len(w.left) > 0 {
		w.refuse(api.ErrSyntax)
	}
}

func (w *words) nextOf(fits func(string) bool) string {
	word := w.next()
	if !fits(word) {
		w.refuse(api.ErrSyntax)
	}
	return word
}

func (w *words) delay() uint64 {
	n, ok := number(w.next())
	if !ok {
		w.refuse(api.ErrSyntax)
	}
	return n
}

func number(word string) (uint64, bool) {
	if len(word) > 1 && word[0] == '0' {
		return 0, false
	}
	n, err := strconv.ParseUint(word, 10, 64)
	return n, err == nil
}

func isName(word string) bool {
	if word == "" || len(word) > api.MaxName || !isSmallLetter(word[0]) {
		return false
	}
	for i := range len(word) {
		if c := word[i]; !isSmallLetter(c) && !isDigit(c) && c != '_' {
			return false
		}
	}
	return true
}

func isSmallLetter(c byte) bool { return 'a' <= c && c <= 'z' }

func isDigit(c byte) bool { return '0' <= c && c <= '9' }

func isReserved(word string) bool {
	digits, ok := strings.CutPrefix(word, reservedPrefix)
	if !ok {
		return false
	}
	n, ok := number(digits)
	return ok && 1 <= n && n <= lastReserved
}

// isOwnEvent tells whether a chart itself may raise or send this, or name a timer so.
func isOwnEvent(word string) bool { return isName(word) || isReserved(word) }

// isAwaited tells whether a move may await this.
func isAwaited(word string) bool {
	name, ok := strings.CutPrefix(word, model.DonePrefix)
	return ok && isName(name) || isOwnEvent(word)
}

// timedEvent is the event that a move behind a delay awaits in this line.
func timedEvent(line int) string { return reservedPrefix + strconv.Itoa(line) }
