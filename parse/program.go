package parse

import (
	"muffle/api"
	"muffle/pretty"
)

// program reads all of a text.
func (p *parser) program() api.Program {
	var out api.Program
	for p.is("region") {
		out.Regions = append(out.Regions, p.region())
	}
	out.Funcs = allAhead(p, end, p.function)
	return out
}

func (p *parser) nice() string {
	text, errno := pretty.Text(p.program())
	if errno != api.OK {
		panic(p.wrong(errno))
	}
	return text
}

func (p *parser) region() api.Region {
	var r api.Region
	p.want("region")
	r.Name = p.name()
	r.Addr = p.size()
	r.Size = p.size()
	r.Secret = p.take("secret")
	p.want(";")
	return r
}

func (p *parser) function() api.Func {
	var f api.Func
	p.want("fn")
	f.Name = p.name()
	f.Params = inParens(p, p.param)
	if p.take("->") {
		f.Rets = list(p, p.name)
	}
	p.want("{")
	for p.is("var") || p.is("array") || p.is("stack") {
		f.Vars = append(f.Vars, p.variable())
	}
	f.Body = p.bodyEnd()
	return f
}

func (p *parser) param() api.Var {
	v := api.Var{Name: p.name(), Kind: api.VarReg}
	v.Secret = p.take("secret")
	return v
}

func (p *parser) variable() api.Var {
	var v api.Var
	switch {
	case p.take("var"):
		v.Kind = api.VarReg
	case p.take("array"):
		v.Kind = api.VarArray
	case p.take("stack"):
		v.Kind = api.VarStack
	}
	v.Name = p.name()
	if v.Kind != api.VarReg {
		v.Size = p.size()
		v.Secret = p.take("secret")
	}
	p.want(";")
	return v
}
