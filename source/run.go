package source

import (
	"maps"
	"slices"

	"muffle/api"
	"muffle/leak"
)

// run is one run of a program.
// What is leaked is laid at once where it belongs: so it is there when the run leaves by a panic with ErrFuel or ErrBounds.
type run struct {
	p       *api.Program
	deeds   map[api.StmtKind]deed
	regions map[string][]uint64
	fuel    int
	ran     api.Ran
}

// deed does a statement, and lays what it leaks behind out.
type deed func(r *run, f *frame, s *api.Stmt, out *[]api.Leak)

func deeds() map[api.StmtKind]deed {
	return map[api.StmtKind]deed{
		api.StSet:   (*run).set,
		api.StPut:   (*run).put,
		api.StIf:    (*run).branch,
		api.StWhile: (*run).loop,
		api.StFor:   (*run).rounds,
		api.StCall:  (*run).call,
	}
}

// ranOf is the run of a program on an input that fits it.
func ranOf(p *api.Program, in api.Input, fuel int) api.Ran {
	r := run{p: p, deeds: deeds(), regions: map[string][]uint64{}, fuel: fuel}
	for i, words := range in.Regions {
		r.regions[p.Regions[i].Name] = slices.Clone(words)
	}
	main := r.enter(len(p.Funcs)-1, in.Args)
	r.ran.Errno = caught(func() { r.body(main, &r.ran.Leak) })
	if r.ran.Errno == api.OK {
		r.ran.Out = r.output(main)
	}
	return r.ran
}

func (r *run) output(main *frame) api.Output {
	out := api.Output{Rets: main.rets()}
	for i := range r.p.Regions {
		out.Regions = append(out.Regions, r.regions[r.p.Regions[i].Name])
	}
	return out
}

// enter is the frame with which a function begins.
func (r *run) enter(number int, args []uint64) *frame {
	f := frame{p: r.p, number: number, words: map[string]uint64{}, arrays: maps.Clone(r.regions)}
	for i, v := range r.p.Funcs[number].Params {
		f.words[v.Name] = args[i]
	}
	return &f
}

// rets are the words that a function answers.
func (f *frame) rets() []uint64 {
	var l []uint64
	for _, name := range f.p.Funcs[f.number].Rets {
		l = append(l, f.words[name])
	}
	return l
}

func (r *run) body(f *frame, out *[]api.Leak) {
	r.stmts(f, r.p.Funcs[f.number].Body, out)
}

func (r *run) stmts(f *frame, l []api.Stmt, out *[]api.Leak) {
	for i := range l {
		r.step()
		r.deeds[l[i].Kind](r, f, &l[i], out)
	}
}

// step takes a step, or leaves, if none is left.
func (r *run) step() {
	if r.ran.Steps == r.fuel {
		panic(api.ErrFuel)
	}
	r.ran.Steps++
}

func (r *run) set(f *frame, s *api.Stmt, out *[]api.Leak) {
	var places []uint64
	f.words[s.Name] = f.reckon(&s.E, &places)
	lay(out, leak.Line(places...))
}

func (r *run) put(f *frame, s *api.Stmt, out *[]api.Leak) {
	var places []uint64
	at := f.reckon(&s.A, &places)
	x := f.reckon(&s.E, &places)
	f.write(s.Name, at, x, &places)
	lay(out, leak.Line(places...))
}

func (r *run) branch(f *frame, s *api.Stmt, out *[]api.Leak) {
	holds, way := f.ask(&s.E, out)
	if holds {
		r.stmts(f, s.Body, way)
	} else {
		r.stmts(f, s.Else, way)
	}
}

func (r *run) loop(f *frame, s *api.Stmt, out *[]api.Leak) {
	list := layWithin(out, api.Leak{Kind: api.LeakLoop})
	for {
		r.step()
		r.ran.Asked++
		holds, round := f.ask(&s.E, list)
		if !holds {
			return
		}
		r.stmts(f, s.Body, round)
	}
}

func (r *run) rounds(f *frame, s *api.Stmt, out *[]api.Leak) {
	n := lay(out, api.Leak{Kind: api.LeakFor})
	for x := s.Low; x < s.High; x++ {
		r.step()
		f.words[s.Name] = x
		n.Subs = append(n.Subs, nil)
		r.stmts(f, s.Body, &n.Subs[len(n.Subs)-1])
	}
	f.words[s.Name] = 0
}

func (r *run) call(f *frame, s *api.Stmt, out *[]api.Leak) {
	var args, places []uint64
	for i := range s.Args {
		args = append(args, f.reckon(&s.Args[i], &places))
	}
	number := slices.IndexFunc(r.p.Funcs, func(g api.Func) bool { return g.Name == s.Name })
	g := r.enter(number, args)
	r.body(g, layWithin(out, api.Leak{Kind: api.LeakCall, Items: places}))
	for i, x := range g.rets() {
		f.words[s.Names[i]] = x
	}
}

// ask reckons a condition, and lays its branch behind out: whether it holds, and the list of what is leaked on its way.
func (f *frame) ask(e *api.Expr, out *[]api.Leak) (bool, *[]api.Leak) {
	var places []uint64
	holds := f.reckon(e, &places) != 0
	return holds, layWithin(out, api.Leak{Kind: api.LeakIf, Items: places, Taken: holds})
}

// lay lays a node behind out, and answers where it lies until out grows again.
func lay(out *[]api.Leak, n api.Leak) *api.Leak {
	*out = append(*out, n)
	return &(*out)[len(*out)-1]
}

// layWithin lays a node that has one list, and answers that.
func layWithin(out *[]api.Leak, n api.Leak) *[]api.Leak {
	n.Subs = make([][]api.Leak, 1)
	lay(out, n)
	return &n.Subs[0]
}
