package comp

import (
	"computus/api"
	"computus/fire"
	"computus/src"
	"computus/when"
)

// underWay is an era that is under way, with the rules by which it goes.
type underWay struct {
	src.Era
	rules []src.Rule
}

// begin is a zone's eras with their rules.
func begin(db src.DB, z src.Zone) []underWay {
	var eras []underWay
	for _, era := range z.Eras {
		u := underWay{Era: era}
		if u.Rule != "" {
			u.rules = fire.Of(db.Rules, u.Rule)
		}
		eras = append(eras, u)
	}
	return eras
}

// endsOf is when all eras but the last one end.
func endsOf(eras []underWay) ([]int64, api.Errno) {
	if len(eras) == 0 {
		return nil, api.ErrArg
	}
	var ends []int64
	for _, u := range eras[:len(eras)-1] {
		end, e := u.end()
		if e != api.OK {
			return nil, e
		}
		ends = append(ends, end)
	}
	return ends, api.OK
}

// end is the instant of the era's UNTIL.
func (u underWay) end() (int64, api.Errno) {
	until := u.Until
	day, e := when.Day(until.Year, until.Month, until.On)
	if e != api.OK {
		return 0, e
	}
	// Which save the wall's clocks have just ahead is asked without a save.
	plain := fire.Instant(day, until.At.Sec, 's', u.Off, 0)
	save, _, e := u.state(plain - 1)
	if e != api.OK {
		return 0, e
	}
	return fire.Instant(day, until.At.Sec, until.At.Kind, u.Off, save), api.OK
}

// state is the save and the letters at an instant.
func (u underWay) state(at int64) (int64, string, api.Errno) {
	if u.Rule == "" {
		return u.Save, "", api.OK
	}
	return fire.State(u.rules, u.Off, at)
}

// at is how clocks stand at an instant.
func (u underWay) at(at int64) (api.Tran, api.Errno) {
	save, letter, e := u.state(at)
	if e != api.OK {
		return api.Tran{}, e
	}
	return u.stand(save, letter), api.OK
}

// stand is how clocks stand that are shifted so.
func (u underWay) stand(save int64, letter string) api.Tran {
	off := u.Off + save
	return api.Tran{Off: off, Dst: save != 0, Abbr: src.Format(u.Format, save, letter, off)}
}

// checkFires says whether all firings rise that a table may name.
func (u underWay) checkFires() api.Errno {
	fires, e := fire.Run(u.rules, u.Off, api.MinYear, api.MaxYear+settleYears)
	if e != api.OK {
		return e
	}
	for i := 1; i < len(fires); i++ {
		if fires[i].At <= fires[i-1].At {
			return api.ErrOrder
		}
	}
	return api.OK
}

// endless is the era's rules that go on for ever.
func (u underWay) endless() []src.Rule {
	var l []src.Rule
	for _, r := range u.rules {
		if r.To == src.Forever {
			l = append(l, r)
		}
	}
	return l
}

// half is one of two rules that go on for ever.
func (u underWay) half(r src.Rule) Half {
	return Half{r.Month, r.On, r.At, r.Save, u.stand(r.Save, r.Letter).Abbr}
}
