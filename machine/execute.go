package machine

import (
	"glyph/api"
	"glyph/array"
)

// execute is ⍎.
type execute struct{}

func (execute) call(w *work, left, right []api.Array) (value, api.Errno) {
	if len(left) > 0 {
		return value{}, api.Syntax
	}
	texts, e := textsOf(right...)
	if e != api.OK {
		return value{}, e
	}
	return w.executed(texts[0]), api.OK
}

// textsOf are the texts that arrays are.
func textsOf(l ...api.Array) ([]string, api.Errno) {
	for _, a := range l {
		if len(a.Shape) > 1 {
			return nil, api.Rank
		}
	}
	var out []string
	for _, a := range l {
		text, ok := array.ToText(a)
		if !ok {
			return nil, api.Domain
		}
		out = append(out, text)
	}
	return out, api.OK
}

// executed is the value of a text's last part. All of them are done in the call that goes on, and at its place.
func (w *work) executed(text string) value {
	c := w.here()
	before := c.held
	c.held = true
	var v value
	for _, part := range w.cut(text) {
		v = w.value(w.statement(part))
	}
	if !v.has {
		w.fail(api.Value, c.At)
	}
	c.held = before
	return v
}

// trapped is the value of a text, or, if that has an error, of another one.
func (w *work) trapped(text, other string) value {
	c, depth, levels := w.here(), len(w.going), w.levels
	before := c.held
	var v value
	errno, left := w.caught(func() { v = w.executed(text) })
	switch {
	case left:
		panic(leaving{})
	case errno == api.OK:
		return v
	case errno == api.Interrupt:
		panic(failure{errno})
	}
	w.leaveTo(depth)
	w.levels, c.held = levels, before
	return w.executed(other)
}
