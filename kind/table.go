package kind

// series is the one operation that tells a list.
const series = "generate_series"

// Rows that more than one operation has.
const (
	numbers   = "int, int: int; numeric, numeric: numeric; int, numeric: numeric; numeric, int: numeric;"
	truths    = "bool, bool: bool;"
	inOrder   = "int, int: bool; numeric, numeric: bool; int, numeric: bool; numeric, int: bool; text, text: bool; date, date: bool; timestamp, timestamp: bool; timestamptz, timestamptz: bool; interval, interval: bool;"
	intervals = "interval, interval: interval;"
)

// entry is an operation and its rows, each with a ; at its end: the kinds of
// its arguments and, behind a :, what comes of them.
type entry struct {
	op, rows string
}

// table is all operations with their rows.
func table() []entry {
	return []entry{
		{"+", numbers + "date, int: date; int, date: date; date, interval: timestamp; interval, date: timestamp; timestamp, interval: timestamp; interval, timestamp: timestamp; timestamptz, interval: timestamptz; interval, timestamptz: timestamptz;" + intervals},
		{"-", numbers + "date, int: date; date, date: int; date, interval: timestamp; timestamp, interval: timestamp; timestamp, timestamp: interval; timestamptz, interval: timestamptz; timestamptz, timestamptz: interval;" + intervals},
		{"*", numbers + "interval, int: interval; int, interval: interval;"},
		{"/", "int, int: int;"},
		{"%", "int, int: int;"},
		{"and", truths},
		{"or", truths},
		{"not", "bool: bool;"},
		{"neg", "int: int; numeric: numeric; interval: interval;"},
		{"at time zone", "timestamp, text: timestamptz; timestamptz, text: timestamp;"},
		{"::text", "int: text; numeric: text; bool: text; text: text; date: text; timestamp: text; timestamptz: text; interval: text;"},
		{"::date", "text: date; date: date; timestamp: date; timestamptz: date;"},
		{"::timestamp", "text: timestamp; date: timestamp; timestamp: timestamp; timestamptz: timestamp;"},
		{"::timestamptz", "text: timestamptz; date: timestamptz; timestamp: timestamptz; timestamptz: timestamptz;"},
		{"::interval", "text: interval; interval: interval;"},
		{"::int", "text: int; int: int; numeric: int;"},
		{"::numeric", "text: numeric; int: numeric; numeric: numeric;"},
		{"date_trunc", "text, timestamp: timestamp; text, timestamptz: timestamptz; text, timestamptz, text: timestamptz;"},
		{"date_bin", "interval, timestamp, timestamp: timestamp; interval, timestamptz, timestamptz: timestamptz;"},
		{"extract", "text, date: numeric; text, timestamp: numeric; text, timestamptz: numeric; text, interval: numeric;"},
		{"age", "timestamp, timestamp: interval;"},
		{"justify", "interval: interval;"},
		{"make_date", "int, int, int: date;"},
		{"isfinite", "date: bool; timestamp: bool; timestamptz: bool; interval: bool;"},
		{"overlaps", "timestamp, timestamp, timestamp, timestamp: bool; timestamptz, timestamptz, timestamptz, timestamptz: bool;"},
		{series, "int, int, int: int; timestamp, timestamp, interval: timestamp; timestamptz, timestamptz, interval: timestamptz;"},
		{"=", inOrder + truths},
		{"<>", inOrder + truths},
		{"<", inOrder},
		{"<=", inOrder},
		{">", inOrder},
		{">=", inOrder},
	}
}

// rowsOf is the kinds of each row, what comes of it last.
func rowsOf(text string) [][]int {
	var all [][]int
	var row []int
	begin := 0
	for i, r := range text {
		if isLetter(r) {
			continue
		}
		if begin < i {
			row = append(row, Kind(text[begin:i]))
		}
		begin = i + 1
		if r == ';' {
			all = append(all, row)
			row = nil
		}
	}
	return all
}

func isLetter(r rune) bool {
	return r >= 'a' && r <= 'z'
}
