package rule

import (
	"idiom/api"
	"idiom/decimal"
)

// parser reads a rule from its first token on. Its methods panic with a fault at what the syntax does not permit.
type parser struct {
	scanner
	rels int // how many relations there are so far
}

// Parse returns the rule with the text s; or the offset of what it rejects.
func Parse(s string) (r api.Rule, at int, errno api.Errno) {
	if len(s) > api.MaxText {
		return api.Rule{}, 0, api.ErrLong
	}
	defer func() {
		if cause := recover(); cause != nil {
			found := cause.(fault) // the parser panics with nothing else
			at, errno = found.at, found.errno
		}
	}()
	p := parser{scanner: scanner{text: s}}
	p.next()
	return p.rule(), 0, api.OK
}

func (p *parser) rule() api.Rule {
	var r api.Rule
	if p.token != "" && p.token != intsMark && p.token != decsMark {
		r.Or = p.or()
	}
	if p.accept(intsMark) {
		r.Ints, r.IntMore = p.samples(false)
	}
	if p.accept(decsMark) {
		r.Decs, r.DecMore = p.samples(true)
	}
	p.require(p.token == "")
	return r
}

func (p *parser) or() [][]api.Rel {
	lists := [][]api.Rel{p.and()}
	for p.accept("or") {
		lists = append(lists, p.and())
	}
	return lists
}

func (p *parser) and() []api.Rel {
	rels := []api.Rel{p.relation()}
	for p.accept("and") {
		rels = append(rels, p.relation())
	}
	return rels
}

func (p *parser) relation() api.Rel {
	p.require(isOperand(p.token))
	p.leaveRoom(p.rels, api.MaxRels)
	p.rels++
	rel := api.Rel{Op: p.take()}
	if p.accept("mod", "%") {
		p.require(isModulus(p.token))
		rel.Mod = p.take()
	}
	if p.accept("is") {
		rel.Not = p.accept("not")
		n := p.number()
		rel.List = []api.Span{{Lo: n, Hi: n}}
		return rel
	}
	rel.Not, rel.Within = p.comparison()
	rel.List = p.spans()
	return rel
}

// comparison takes what stands ahead of a list.
func (p *parser) comparison() (not, within bool) {
	switch {
	case p.accept("="):
		return false, false
	case p.accept("!="):
		return true, false
	}
	not = p.accept("not")
	if p.accept("within") {
		return not, true
	}
	p.require(p.accept("in"))
	return not, false
}

func (p *parser) spans() []api.Span {
	spans := []api.Span{p.span()}
	for p.accept(",") {
		p.require(isDigits(p.token))
		p.leaveRoom(len(spans), api.MaxSpans)
		spans = append(spans, p.span())
	}
	return spans
}

func (p *parser) span() api.Span {
	lo := p.number()
	if !p.accept("..") {
		return api.Span{Lo: lo, Hi: lo}
	}
	p.require(isSpan(lo, p.token))
	return api.Span{Lo: lo, Hi: p.take()}
}

func (p *parser) number() string {
	p.require(isNumber(p.token))
	return p.take()
}

// samples takes samples whose numbers all have a period, or all have none; more tells that there are further ones.
func (p *parser) samples(period bool) (samples []api.Sample, more bool) {
	samples = append(samples, p.sample(period))
	for p.accept(",") {
		if p.accept(moreMark, "...") {
			return samples, true
		}
		p.require(isDigits(p.token))
		p.leaveRoom(len(samples), api.MaxSpans)
		samples = append(samples, p.sample(period))
	}
	return samples, false
}

func (p *parser) sample(period bool) api.Sample {
	lo := p.value(period)
	if !p.accept("~") {
		return api.Sample{Lo: lo, Hi: lo}
	}
	begin := p.at
	hi := p.value(period)
	if !isRange(lo, hi) {
		panic(fault{begin, api.ErrRule})
	}
	return api.Sample{Lo: lo, Hi: hi}
}

// value takes the number of a sample, within which there is no white space.
func (p *parser) value(period bool) string {
	begin := p.at
	value := p.number()
	p.require((p.joined && p.token == ".") == period)
	if period {
		p.next()
		p.require(p.joined && isDigits(p.token))
		d := api.Dec{Int: value, Frac: p.take()}
		if decimal.Check(d) != api.OK { // too many digits
			panic(fault{begin, api.ErrRule})
		}
		value += "." + d.Frac
	}
	if p.joined && p.accept("c", "e") {
		p.require(p.joined && isExponent(p.token))
		value += exponentMark + p.take()
	}
	return value
}
