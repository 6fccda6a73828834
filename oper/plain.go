package oper

import "glyph/api"

// plain is a caller with so many steps, that calls nothing.
type plain struct {
	env         api.Env
	steps, used int
}

func (p *plain) Call(f api.Func, left []api.Array, right api.Array) (api.Array, api.Errno) {
	return api.Array{}, api.Syntax
}

func (p *plain) Step() api.Errno {
	if p.used >= p.steps {
		return api.Interrupt
	}
	p.used++
	return api.OK
}

func (p *plain) Axis(f api.Func) (api.Array, api.Errno) {
	if where := f.Where[0]; where.Kind == api.Const {
		return where.Array, api.OK
	}
	return api.Array{}, api.Syntax
}

func (p *plain) Env() api.Env {
	return p.env
}
