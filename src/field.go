package src

import (
	"computus/api"
	"computus/when"
	"computus/word"
)

const (
	leastFields = 3 // of an era without an UNTIL
	untilFields = 4 // of an UNTIL from which nothing is left out
	yearDigits  = 4
	mostLetters = 8
	mostFormat  = 24
	mostSave    = 2 * hourSeconds
	mostOffset  = 14 * hourSeconds
	only        = 0 // a TO that is its FROM, told by a year that can not be
)

// reader reads a field: whether it can be, and what it tells, which is of one
// type for each reader, so that an assertion to that type can not fail.
type reader interface {
	read(field string) (any, bool)
}

type (
	nameReader   struct{}                    // string
	noneReader   struct{}                    // string
	yearReader   struct{}                    // int64
	toReader     struct{}                    // int64
	monthReader  struct{}                    // int64
	onReader     struct{}                    // when.On
	atReader     struct{}                    // when.At
	spanReader   struct{ least, most int64 } // int64
	letterReader struct{}                    // string
	formatReader struct{}                    // string
	shiftReader  struct{}                    // shift
)

// shift is how an era's clocks are shifted: by a save, or by rules.
type shift struct {
	rule string
	save int64
}

func saveReader() reader   { return spanReader{0, mostSave} }
func offsetReader() reader { return spanReader{-mostOffset, mostOffset} }

// readRule reads what stands behind the word Rule.
func readRule(fields []string) (Rule, bool) {
	v, ok := readAll(fields, nameReader{}, yearReader{}, toReader{}, noneReader{},
		monthReader{}, onReader{}, atReader{}, saveReader(), letterReader{})
	if !ok {
		return Rule{}, false
	}
	r := Rule{
		Name:   v[0].(string),
		From:   v[1].(int64),
		To:     v[2].(int64),
		Month:  v[4].(int64),
		On:     v[5].(when.On),
		At:     v[6].(when.At),
		Save:   v[7].(int64),
		Letter: v[8].(string),
	}
	if r.To == only {
		r.To = r.From
	}
	return r, r.To >= r.From
}

// readZone reads what stands behind the word Zone: a name, and the first era.
func readZone(fields []string) (string, Era, bool) {
	if len(fields) == 0 {
		return "", Era{}, false
	}
	v, ok := readAll(fields[:1], nameReader{})
	era, right := readEra(fields[1:])
	if !ok || !right {
		return "", Era{}, false
	}
	return v[0].(string), era, true
}

// readLink reads what stands behind the word Link.
func readLink(fields []string) (Link, bool) {
	v, ok := readAll(fields, nameReader{}, nameReader{})
	if !ok {
		return Link{}, false
	}
	return Link{To: v[0].(string), Name: v[1].(string)}, true
}

func readEra(fields []string) (Era, bool) {
	if len(fields) < leastFields {
		return Era{}, false
	}
	v, ok := readAll(fields[:leastFields], offsetReader(), shiftReader{}, formatReader{})
	until, right := readUntil(fields[leastFields:])
	if !ok || !right {
		return Era{}, false
	}
	by := v[1].(shift)
	return Era{Off: v[0].(int64), Rule: by.rule, Save: by.save, Format: v[2].(string), Until: until}, true
}

// readUntil reads an UNTIL; of no fields there is none.
func readUntil(fields []string) (Until, bool) {
	if len(fields) == 0 {
		return Until{}, true
	}
	if len(fields) > untilFields {
		return Until{}, false
	}
	// What is left out is as if it stood so.
	all := [untilFields]string{"", "Jan", "1", "0"}
	copy(all[:], fields)
	v, ok := readAll(all[:], yearReader{}, monthReader{}, onReader{}, atReader{})
	if !ok {
		return Until{}, false
	}
	return Until{Year: v[0].(int64), Month: v[1].(int64), On: v[2].(when.On), At: v[3].(when.At)}, true
}

// readAll reads just so many fields as there are readers, each by its own.
func readAll(fields []string, l ...reader) ([]any, bool) {
	if len(fields) != len(l) {
		return nil, false
	}
	var values []any
	for i, r := range l {
		v, ok := r.read(fields[i])
		if !ok {
			return nil, false
		}
		values = append(values, v)
	}
	return values, true
}

func (nameReader) read(field string) (any, bool) { return field, Name(field) }

func (noneReader) read(field string) (any, bool) { return field, field == none }

func (yearReader) read(field string) (any, bool) {
	y, e := word.Number(field)
	return y, e == api.OK && len(field) == yearDigits && y >= api.MinYear && y <= api.MaxYear
}

func (toReader) read(field string) (any, bool) {
	switch {
	case word.Same(field, onlyWord):
		return int64(only), true
	case word.Same(field, maxWord):
		return int64(Forever), true
	}
	return yearReader{}.read(field)
}

func (monthReader) read(field string) (any, bool) {
	m := word.Month(field)
	return m, m != 0
}

func (onReader) read(field string) (any, bool) {
	on, e := when.ReadOn(field)
	return on, e == api.OK
}

func (atReader) read(field string) (any, bool) {
	at, e := when.ReadAt(field)
	return at, e == api.OK
}

func (r spanReader) read(field string) (any, bool) {
	sec, e := when.ReadSave(field)
	return sec, e == api.OK && sec >= r.least && sec <= r.most
}

func (letterReader) read(field string) (any, bool) {
	if field == none {
		return "", true
	}
	for _, c := range field {
		if !isLetter(c) && !isDigit(c) {
			return "", false
		}
	}
	return field, field != "" && len(field) <= mostLetters
}

func (formatReader) read(field string) (any, bool) {
	marks, percent := 0, false
	for i, c := range field {
		switch {
		case percent:
			// A mark is both of its bytes.
			if c != 's' && c != 'z' {
				return "", false
			}
			percent = false
		case c == '%':
			percent = true
			marks++
		case c == '/' && i > 0 && i < len(field)-1:
			marks++
		case !isLetter(c) && !isDigit(c) && c != '+' && c != '-':
			return "", false
		}
	}
	return field, field != "" && len(field) <= mostFormat && !percent && marks <= 1
}

func (shiftReader) read(field string) (any, bool) {
	switch {
	case field == none:
		return shift{}, true
	case field != "" && isDigit(rune(field[0])):
		save, ok := saveReader().read(field)
		return shift{save: save.(int64)}, ok
	}
	return shift{rule: field}, Name(field)
}

func isLetter(c rune) bool { return c >= 'a' && c <= 'z' || c >= 'A' && c <= 'Z' }
func isDigit(c rune) bool  { return c >= '0' && c <= '9' }
