package src

import (
	"computus/api"
	"computus/line"
	"computus/word"
)

// parser is a source that is being read.
type parser struct {
	db    DB
	rules map[string]int // how many rules each name has
	eras  []eraLine
	open  bool // the last era had an UNTIL: just a line that goes on may come
}

// eraLine is an era's line, and the rules that it asks for.
type eraLine struct {
	n    int
	rule string
}

// take takes the next line.
func (p *parser) take(l line.Line) api.Errno {
	if p.open {
		return p.goOn(l)
	}
	switch word.Known(l.Fields[0], []string{ruleWord, zoneWord, linkWord}) {
	case 0:
		return p.takeRule(l)
	case 1:
		return p.takeZone(l)
	case 2:
		return p.takeLink(l)
	}
	return api.ErrForm
}

func (p *parser) takeRule(l line.Line) api.Errno {
	r, ok := readRule(l.Fields[1:])
	if !ok {
		return api.ErrForm
	}
	ahead := p.rules[r.Name]
	if ahead == api.MaxRules || ahead == 0 && len(p.rules) == api.MaxZones {
		return api.ErrSize
	}
	p.rules[r.Name]++
	p.db.Rules = append(p.db.Rules, r)
	return api.OK
}

func (p *parser) takeZone(l line.Line) api.Errno {
	name, era, ok := readZone(l.Fields[1:])
	if !ok {
		return api.ErrForm
	}
	if len(p.db.Zones) == api.MaxZones {
		return api.ErrSize
	}
	if p.taken(name) {
		return api.ErrName
	}
	p.db.Zones = append(p.db.Zones, Zone{Name: name})
	p.add(l.N, era)
	return api.OK
}

// goOn takes a line that is an era alone, of the last zone.
func (p *parser) goOn(l line.Line) api.Errno {
	era, ok := readEra(l.Fields)
	if !ok {
		return api.ErrForm
	}
	if len(p.db.Zones[len(p.db.Zones)-1].Eras) == api.MaxEras {
		return api.ErrSize
	}
	p.add(l.N, era)
	return api.OK
}

func (p *parser) takeLink(l line.Line) api.Errno {
	k, ok := readLink(l.Fields[1:])
	if !ok {
		return api.ErrForm
	}
	if len(p.db.Links) == api.MaxLinks {
		return api.ErrSize
	}
	if p.taken(k.Name) {
		return api.ErrName
	}
	p.db.Links = append(p.db.Links, k)
	return api.OK
}

// add gives the last zone an era more.
func (p *parser) add(n int, era Era) {
	z := &p.db.Zones[len(p.db.Zones)-1]
	z.Eras = append(z.Eras, era)
	p.eras = append(p.eras, eraLine{n, era.Rule})
	p.open = era.Until.Year != 0
}

// taken: has a zone or a link that name?
func (p *parser) taken(name string) bool {
	for _, z := range p.db.Zones {
		if word.Same(z.Name, name) {
			return true
		}
	}
	for _, k := range p.db.Links {
		if word.Same(k.Name, name) {
			return true
		}
	}
	return false
}

// lost is the line of the first era whose rules nobody has; 0: none.
func (p *parser) lost() int {
	for _, l := range p.eras {
		if l.rule != "" && p.rules[l.rule] == 0 {
			return l.n
		}
	}
	return 0
}
