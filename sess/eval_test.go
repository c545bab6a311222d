package sess_test

import (
	"strings"
	"testing"

	"computus/api"
	"computus/expr"
	"computus/sess"
)

const (
	least = "(- 9223372036854775807 - 1)"
	most  = "9223372036854775807"
)

// checkRows runs statements with one row each.
func checkRows(t *testing.T, s *sess.Session, kind int, rows map[string]string) {
	t.Helper()
	for text, row := range rows {
		does(t, s, text, kind, row)
	}
}

// berlin is a session in Berlin.
func berlin(t *testing.T) *sess.Session {
	t.Helper()
	s := opened(t, wide)
	does(t, s, "set timezone = 'Europe/Berlin'", 0)
	return s
}

// P24.2: whole numbers.
func TestInts(t *testing.T) {
	checkRows(t, opened(t, example), api.KInt, map[string]string{
		"0": "0", "007": "7", most: most, "- 5": "-5", "- - 5": "5", "neg(5)": "-5", least: "-9223372036854775808", "- (- " + most + ")": most,
		"1 + 2": "3", "1 - 2": "-1", "3 * - 4": "-12", "1 + 2 * 3": "7", "(1 + 2) * 3": "9", "7 - 2 - 3": "2", most + " - 1 + 1": most,
		"7 / 2": "3", "(- 7) / 2": "-3", "7 / - 2": "-3", "(- 7) / - 2": "3", "- 7 / 2": "-3", "0 / 5": "0", least + " / 1": "-9223372036854775808", least + " / 2": "-4611686018427387904", most + " / - 1": "-9223372036854775807", "5 / - 1": "-5", "1 / 2": "0",
		"7 % 2": "1", "(- 7) % 2": "-1", "7 % - 2": "1", "(- 7) % - 2": "-1", "6 % 3": "0", "(- 6) % 3": "0", least + " % - 1": "0", least + " % 10": "-8", "0 % 7": "0",
		"7 / 2 - 7 % 2 * 2": "1", "'12'::int": "12", "'-12'::int": "-12", "'+12'::int": "12", "'0'::int": "0", "'-9223372036854775808'::int": "-9223372036854775808",
		"5::int": "5", "1.5::int": "2", "2.5::int": "3", "(- 1.5)::int": "-2", "1.4::int": "1", "(- 1.4)::int": "-1", "0.5::int": "1", "0.4999::int": "0", "2.0::int": "2",
		"date '2024-03-31' - date '2024-01-01'": "90", "date '2024-01-01' - date '2024-03-31'": "-90", "1::numeric::int": "1", least + "::int": "-9223372036854775808",
	})
}

// P24.2: numbers with places.
func TestNumerics(t *testing.T) {
	checkRows(t, opened(t, example), api.KDec, map[string]string{
		"1.50": "1.50", "0.0": "0.0", "- 1.5": "-1.5", "- 0.00": "0.00", "neg(1.5)": "-1.5", "1.5 + 1": "2.5", "1 + 1.5": "2.5", "1 - 1.5": "-0.5", "1.5 - 1": "0.5", "1.5 + 0.25": "1.75", "1.5 - 0.25": "1.25",
		"1.5 * 2": "3.0", "2 * 1.5": "3.0", "1.5 * 1.50": "2.250", "0.000000001": "0.000000001", "1.000000000 * 1": "1.000000000", "9223372036.854775807": "9223372036.854775807", "922337203685477580.7 + 0": "922337203685477580.7",
		"1::numeric": "1", "'1.50'::numeric": "1.50", "'-7'::numeric": "-7", "1.5::numeric": "1.5", "5::numeric * 2": "10", "5::numeric + 1.25": "6.25", least + "::numeric": "-9223372036854775808",
	})
}

// P24.2: truths, and what is the same, ahead or behind.
func TestBools(t *testing.T) {
	s := opened(t, example)
	var yes, no []string
	add := func(l ...string) { yes = append(yes, l...) }
	add("true", "not false", "true and true", "true or false", "false or true", "not (true and false)", "true = true", "false <> true", "not (true = false)", "not (true <> true)")
	add("1 = 1", "1 <> 2", "1 < 2", "1 <= 1", "1 <= 2", "2 > 1", "2 >= 2", "2 >= 1", "1 = 1.0", "1.0 = 1", "1.5 = 1.50", "1.5 < 1.51", "1 < 1.5", "1.5 > 1", "0.0 = 0", "1.5 <> 1", most+" > 0.5", least+" < "+most)
	add("'a' = 'a'", "'a' <> 'A'", "'A' < 'a'", "'a' < 'ab'", "'' < 'a'", "'10' < '9'", "'Z' < 'a'", "'z' < 'é'", "'a' >= 'a'", "'é' > 'z'", "'' = ''", "' ' < 'a'")
	add("date '2024-01-01' = date '1/1/2024'", "date '2024-01-01' < date '2024-01-02'", "date 'infinity' > date '294276-12-31'", "date '-infinity' < date '4713-01-01 BC'", "date 'infinity' = date 'infinity'", "date '2024-01-01' <> date 'epoch'", "date '0001-01-01 BC' < date '0001-01-01'")
	add("timestamp '2024-01-01' < timestamp '2024-01-01 00:00:00.000001'", "timestamp 'infinity' >= timestamp 'infinity'", "timestamptz '2024-01-01 00:00Z' = timestamptz '2024-01-01 02:00+02'", "timestamptz '-infinity' <= timestamptz 'epoch'", "timestamp 'epoch' <> timestamp '-infinity'")
	add("interval '1 mon' = interval '30 days'", "interval '1 day' = interval '24 hours'", "interval '1 mon' < interval '31 days'", "interval 'infinity' > interval '2147483647 mons'", "interval '-1 day' < interval '00:00:00'", "interval '1 day' <> interval '2 days'")
	add("isfinite(date '2024-01-01')", "not isfinite(date 'infinity')", "not isfinite(date '-infinity')", "isfinite(timestamp 'epoch')", "not isfinite(timestamp 'infinity')", "isfinite(timestamptz 'epoch')", "not isfinite(timestamptz '-infinity')", "isfinite(interval '1 day')", "not isfinite(interval 'infinity')", "isfinite(date '2000-01-01')")
	add("overlaps(timestamp '2024-01-01', timestamp '2024-01-03', timestamp '2024-01-02', timestamp '2024-01-04')", "not overlaps(timestamp '2024-01-01', timestamp '2024-01-02', timestamp '2024-01-02', timestamp '2024-01-04')", "overlaps(timestamptz '2024-01-01', timestamptz '2024-01-01', timestamptz '2024-01-01', timestamptz '2024-01-04')", "overlaps(timestamp '2024-01-03', timestamp '2024-01-01', timestamp '2024-01-04', timestamp '2024-01-02')", "not overlaps(timestamptz '2024-01-01', timestamptz '2024-01-02', timestamptz '2024-01-03', timestamptz '2024-01-04')")
	no = []string{"false", "not true", "true and false", "false and true", "false or false", "true = false", "true <> true", "1 <> 1", "2 < 1", "1 < 1", "2 <= 1", "1 > 1", "1 >= 2", "1 = 1.5", "1.5 < 1", "'a' = 'b'", "'b' < 'a'", "'a' > 'a'", "date '2024-01-02' < date '2024-01-01'", "timestamp '2024-01-01' <> timestamp '2024-01-01'", "timestamptz 'epoch' > timestamptz 'infinity'", "interval '2 days' <= interval '1 day'", "interval '1 mon' <> interval '30 days'"}
	for _, text := range yes {
		does(t, s, text, api.KBool, "true")
	}
	for _, text := range no {
		does(t, s, text, api.KBool, "false")
	}
}

// P24.2: both sides of and, or are reckoned.
func TestBothSides(t *testing.T) {
	s := opened(t, example)
	for _, text := range []string{"false and 1 / 0 = 1", "true or 1 / 0 = 1", "1 / 0 = 1 and false", "1 / 0 = 1 or true", "true or not (1 / 0 = 1)"} {
		fails(t, s, text, api.ErrZero, 0)
	}
}

// P24.2: texts, and what is cast to them.
func TestTexts(t *testing.T) {
	s := berlin(t)
	checkRows(t, s, api.KText, map[string]string{
		"'x'": "x", "''": "", "'it''s'": "it's", "'x'::text": "x", "' é '": " é ", "1::text": "1", "(- 1)::text": "-1", "1.50::text": "1.50", "true::text": "true", "(1 = 2)::text": "false",
		"date '2024-03-31'::text": "2024-03-31", "date '0044-03-15 BC'::text": "0044-03-15 BC", "timestamp '2024-03-31 2:30'::text": "2024-03-31 02:30:00", "timestamptz '2024-03-31 00:30Z'::text": "2024-03-31 01:30:00+01",
		"interval '1 year -1 days'::text": "1 year -1 days", "date 'infinity'::text": "infinity", "1::text::int::text": "1", "(timestamp '2024-07-01 12:00' at time zone 'UTC')::text": "2024-07-01 14:00:00+02",
	})
	long := strings.Repeat("x", 2046)
	does(t, s, "'"+long+"'", api.KText, long)
}

// P24.2: dates.
func TestDates(t *testing.T) {
	checkRows(t, berlin(t), api.KDate, map[string]string{
		"date '2024-03-31'": "2024-03-31", "'2024-03-31'::date": "2024-03-31", "date '2024-03-31'::date": "2024-03-31", "date '3/31/2024'": "2024-03-31", "date 'epoch'": "1970-01-01", "date '-infinity'": "-infinity",
		"date '2024-02-28' + 1": "2024-02-29", "1 + date '2024-02-28'": "2024-02-29", "date '2024-03-01' - 1": "2024-02-29", "date '2024-03-01' + - 1": "2024-02-29", "date '2024-03-01' - - 1": "2024-03-02", "date 'infinity' + 5": "infinity", "date '-infinity' - 5": "-infinity", "date 'infinity' + " + most: "infinity", "date '294276-12-31' + 0": "294276-12-31", "date '4713-01-01 BC' + 1": "4713-01-02 BC",
		"timestamp '2024-03-31 23:59:59.999999'::date": "2024-03-31", "timestamp 'infinity'::date": "infinity", "timestamp '0001-12-31 23:00 BC'::date": "0001-12-31 BC", "timestamptz '2024-03-31 22:30Z'::date": "2024-04-01", "timestamptz '2024-03-31 21:30Z'::date": "2024-03-31", "timestamptz '-infinity'::date": "-infinity",
		"make_date(2024, 2, 29)": "2024-02-29", "make_date(- 44, 3, 15)": "0044-03-15 BC", "make_date(- 1, 1, 1)": "0001-01-01 BC", "make_date(1, 1, 1)": "0001-01-01", "make_date(- 4713, 1, 1)": "4713-01-01 BC", "make_date(294276, 12, 31)": "294276-12-31", "make_date(- 1, 2, 29)": "0001-02-29 BC",
	})
}

// P24.2: what clocks say.
func TestStamps(t *testing.T) {
	checkRows(t, berlin(t), api.KStamp, map[string]string{
		"timestamp '2024-03-31 02:30'": "2024-03-31 02:30:00", "'20240331T02:30'::timestamp": "2024-03-31 02:30:00",
		"timestamp '2024-03-31'": "2024-03-31 00:00:00", "'epoch'::timestamp": "1970-01-01 00:00:00", "date '2024-03-31'::timestamp": "2024-03-31 00:00:00", "date 'infinity'::timestamp": "infinity", "timestamp 'epoch'::timestamp": "1970-01-01 00:00:00", "timestamptz '2024-07-01 12:00Z'::timestamp": "2024-07-01 14:00:00", "timestamptz 'infinity'::timestamp": "infinity",
		"date '2024-01-31' + interval '1 month'": "2024-02-29 00:00:00", "interval '1 month' + date '2024-01-31'": "2024-02-29 00:00:00", "date '2024-03-31' - interval '1 month'": "2024-02-29 00:00:00", "date '2024-03-31' + interval 'infinity'": "infinity", "date '2024-03-31' - interval 'infinity'": "-infinity", "date '2024-01-31' + interval '1 mon 1 day 01:00:00'": "2024-03-01 01:00:00",
		"timestamp '2024-03-30 12:00' + interval '1 day'": "2024-03-31 12:00:00", "interval '24 hours' + timestamp '2024-03-30 12:00'": "2024-03-31 12:00:00", "timestamp '2024-03-31 12:00' - interval '1 mon'": "2024-02-29 12:00:00", "timestamp 'infinity' - interval '1 mon'": "infinity", "timestamp '2024-01-01' - interval '-00:00:00.000001'": "2024-01-01 00:00:00.000001",
		"timestamptz '2024-07-01 12:00Z' at time zone 'America/New_York'": "2024-07-01 08:00:00", "timestamptz '2024-07-01 12:00' at time zone 'utc'": "2024-07-01 10:00:00", "timestamptz 'infinity' at time zone 'UTC'": "infinity",
		"date_trunc('month', timestamp '2024-03-31 2:30')": "2024-03-01 00:00:00", "date_trunc('WEEK', timestamp '2024-03-31')": "2024-03-25 00:00:00", "date_trunc('hour', timestamp 'infinity')": "infinity",
		"date_bin(interval '15 minutes', timestamp '2024-01-01 02:37', timestamp '2024-01-01')": "2024-01-01 02:30:00", "date_bin(interval '1 day', timestamp '-infinity', timestamp '2024-01-01')": "-infinity", "date_bin(interval '7 days', timestamp '2024-01-01', timestamp '2024-01-04')": "2023-12-28 00:00:00",
	})
}

// P24.2: instants, by the clocks of the session.
func TestInstants(t *testing.T) {
	checkRows(t, berlin(t), api.KTz, map[string]string{
		"timestamptz '2024-03-31 00:30Z'": "2024-03-31 01:30:00+01", "timestamptz '2024-03-31 02:30'": "2024-03-31 03:30:00+02", "timestamptz '2024-10-27 02:30'": "2024-10-27 02:30:00+02", "timestamptz '2024-10-27 02:30 CET'": "2024-10-27 02:30:00+01", "timestamptz '2024-07-01 12:00 America/New_York'": "2024-07-01 18:00:00+02", "timestamptz '2024-07-01 12:00 asia/kolkata'": "2024-07-01 08:30:00+02", "timestamptz 'epoch'": "1970-01-01 01:00:00+01", "timestamptz '-infinity'": "-infinity", "'1800-01-01 00:00Z'::timestamptz": "1800-01-01 00:53:28+00:53:28",
		"date '2024-07-01'::timestamptz": "2024-07-01 00:00:00+02", "date 'infinity'::timestamptz": "infinity", "timestamp '2024-03-31 02:30'::timestamptz": "2024-03-31 03:30:00+02", "timestamp '-infinity'::timestamptz": "-infinity", "timestamptz 'epoch'::timestamptz": "1970-01-01 01:00:00+01", "'2024-07-01'::timestamptz": "2024-07-01 00:00:00+02",
		"timestamptz '2024-03-30 12:00' + interval '1 day'": "2024-03-31 12:00:00+02", "timestamptz '2024-03-30 12:00' + interval '24 hours'": "2024-03-31 13:00:00+02", "interval '1 day' + timestamptz '2024-03-30 12:00'": "2024-03-31 12:00:00+02", "timestamptz '2024-04-01 12:00' - interval '1 day'": "2024-03-31 12:00:00+02", "timestamptz '2024-03-31 12:00' - interval '1 day'": "2024-03-30 12:00:00+01", "timestamptz '2024-03-31 12:00' - interval '24 hours'": "2024-03-30 11:00:00+01", "timestamptz '2024-10-27 02:30' + interval '1 hour'": "2024-10-27 02:30:00+01", "timestamptz '2024-01-01' + interval 'infinity'": "infinity", "timestamptz '2024-01-01' - interval 'infinity'": "-infinity",
		"timestamp '2024-10-27 02:30' at time zone 'Berlin'": "2024-10-27 02:30:00+02", "timestamp '2024-03-31 02:30' at time zone 'BERLIN'": "2024-03-31 03:30:00+02", "timestamp '2024-07-01 12:00' at time zone 'Asia/Kolkata'": "2024-07-01 08:30:00+02", "timestamp 'infinity' at time zone 'UTC'": "infinity", "timestamptz '2024-07-01 12:00Z' at time zone 'UTC' at time zone 'America/New_York'": "2024-07-01 18:00:00+02",
		"date_trunc('day', timestamptz '2024-03-31 12:34:56')": "2024-03-31 00:00:00+01", "date_trunc('month', timestamptz '2024-03-31 22:30Z')": "2024-04-01 00:00:00+02", "date_trunc('day', timestamptz '2024-03-31 12:34:56', 'utc')": "2024-03-31 01:00:00+01", "date_trunc('day', timestamptz '2024-07-01 12:00', 'america/new_york')": "2024-07-01 06:00:00+02", "date_trunc('hour', timestamptz '2024-07-01 12:34', 'Asia/Kolkata')": "2024-07-01 12:30:00+02", "date_trunc('year', timestamptz 'infinity', 'UTC')": "infinity",
		"date_bin(interval '1 day', timestamptz '2024-07-01 12:00', timestamptz '2024-01-01')": "2024-07-01 01:00:00+02",
	})
}

// P24.2: intervals.
func TestIntervals(t *testing.T) {
	checkRows(t, berlin(t), api.KSpan, map[string]string{
		"interval '1 day'": "1 day", "'P1Y2M3DT4H'::interval": "1 year 2 mons 3 days 04:00:00", "interval '1 day'::interval": "1 day", "interval '-infinity'": "-infinity", "- interval '1 mon -2 days 03:00:00'": "-1 mons +2 days -03:00:00", "- interval 'infinity'": "-infinity", "neg(interval '1 day')": "-1 days",
		"interval '1 mon' + interval '1 day'": "1 mon 1 day", "interval '1 mon' - interval '1 day'": "1 mon -1 days", "interval '1 mon' - interval '1 mon'": "00:00:00", "interval 'infinity' - interval '1 mon'": "infinity", "interval '1 mon' - interval 'infinity'": "-infinity", "interval '1 day 02:00:00' * 3": "3 days 06:00:00", "- 2 * interval '1 mon'": "-2 mons", "interval 'infinity' * - 1": "-infinity", "interval '1 day' * 0": "00:00:00",
		"timestamp '2024-03-31 12:00' - timestamp '2024-03-30 06:00'": "1 day 06:00:00", "timestamp '2024-03-30' - timestamp '2024-03-31 12:00'": "-1 days -12:00:00", "timestamptz '2024-03-31 12:00' - timestamptz '2024-03-30 12:00'": "23:00:00", "timestamp 'infinity' - timestamp '2024-01-01'": "infinity", "timestamptz '2024-01-01' - timestamptz 'infinity'": "-infinity",
		"age(timestamp '2024-03-01', timestamp '2024-01-31')": "1 mon 1 day", "age(timestamp '2024-01-31', timestamp '2024-03-01')": "-1 mons -1 days", "age(timestamp '-infinity', timestamp 'epoch')": "-infinity", "justify(interval '35 days 25 hours')": "1 mon 6 days 01:00:00", "justify(interval 'infinity')": "infinity", "justify(interval '1 mon -1 hours')": "29 days 23:00:00",
	})
}

// P24.2: fields of values, by the clocks of the session.
func TestExtract(t *testing.T) {
	checkRows(t, berlin(t), api.KDec, map[string]string{
		"extract('century', date '2000-01-01')": "20", "extract('week', date '2024-03-31')": "13", "Extract('YEAR', date '0044-03-15 BC')": "-44", "extract('second', timestamp '2024-01-01 00:00:01.5')": "1.500000", "extract('milliseconds', timestamp '2024-01-01 00:00:01.5')": "1500.000", "extract('hour', timestamptz '2024-07-01 12:00Z')": "14", "extract('timezone', timestamptz '2024-07-01 12:00Z')": "7200", "extract('epoch', timestamptz '1970-01-01 00:00:01Z')": "1.000000", "extract('epoch', date '1970-01-02')": "86400.000000", "extract('month', interval '14 mons')": "2", "extract('epoch', interval '1 day')": "86400.000000", "extract('dow', date '2024-03-31')": "0",
	})
}

// P24.2: lists.
func TestSeries(t *testing.T) {
	s := berlin(t)
	does(t, s, "generate_series(1, 3, 1)", api.KInt, "1", "2", "3")
	does(t, s, "generate_series(1, 10, 4)", api.KInt, "1", "5", "9")
	does(t, s, "generate_series(3, 1, - 1)", api.KInt, "3", "2", "1")
	does(t, s, "generate_series(3, 1, 1)", api.KInt)
	does(t, s, "(generate_series("+most+" - 1, "+most+", 2))", api.KInt, "9223372036854775806")
	does(t, s, "generate_series(timestamp '2024-01-31', timestamp '2024-05-01', interval '1 month')", api.KStamp, "2024-01-31 00:00:00", "2024-02-29 00:00:00", "2024-03-29 00:00:00", "2024-04-29 00:00:00")
	does(t, s, "generate_series(timestamptz '2024-03-30 12:00', timestamptz '2024-04-01 12:00', interval '1 day')", api.KTz, "2024-03-30 12:00:00+01", "2024-03-31 12:00:00+02", "2024-04-01 12:00:00+02")
	does(t, s, "generate_series(timestamptz '2024-03-30 12:00', timestamptz '2024-04-01 12:00', interval '24 hours')", api.KTz, "2024-03-30 12:00:00+01", "2024-03-31 13:00:00+02")
	does(t, s, "generate_series(timestamp '2024-01-01', timestamp '-infinity', interval '1 day')", api.KStamp)
	fails(t, s, "generate_series(timestamp '2024-01-01', timestamp 'infinity', interval '1 day')", api.ErrRows, 0)
	fails(t, s, "generate_series(1, 2, 0)", api.ErrZero, 0)
	fails(t, s, "generate_series(1, 1000, 1)", api.ErrRows, 0)
	fails(t, s, "generate_series(timestamp 'infinity', timestamp 'infinity', interval '1 day')", api.ErrRange, 0)
	fails(t, s, "generate_series(timestamptz 'epoch', timestamptz 'epoch', interval '0 days')", api.ErrZero, 0)
	fails(t, s, "generate_series(1 / 0, f(), 1)", api.ErrType, 23)
	fails(t, s, "generate_series(1 / 0, 9223372036854775808, 1)", api.ErrZero, 0)
}

// P24.2, P24.3: what can not be reckoned; the first error ends it.
func TestErrors(t *testing.T) {
	s := berlin(t)
	for e, texts := range map[api.Errno][]string{
		api.ErrRange: {
			"9223372036854775808", "- 9223372036854775808", "99999999999999999999 / 0", most + " + 1", least + " - 1", "- " + least, "neg(" + least + ")", "3037000500 * 3037000500", least + " / - 1", least + " * - 1", "'9223372036854775808'::int", "'-9223372036854775809'::int", "'99999999999999999999.5'::int",
			"9223372036854775807.5", "9223372036854775807.0", "922337203685477580.8", most + " + 0.5", most + " - 0.5", most + " * 10.0", "1.00000 * 1.00000", "9223372036854775807::numeric + 1", "- " + least + "::numeric", "'9223372036854775807.0'::numeric",
			"date '294276-12-31' + 1", "1 + date '294276-12-31'", "date '4713-01-01 BC' - 1", "date '2024-01-01' + " + most, "date '2024-01-01' - " + least, "date 'infinity' - " + least, "date 'infinity' - date '2024-01-01'", "date '294277-01-01'", "date '4714-12-31 BC'", "date '294276-12-31' + interval '1 day'", "date 'infinity' + interval '-infinity'", "date 'infinity' - interval 'infinity'",
			"timestamp '294276-12-31 23:59:59.999999' + interval '00:00:00.000001'", "timestamp 'infinity' - timestamp 'infinity'", "timestamptz 'infinity' - timestamptz 'infinity'", "timestamp '294276-12-31' - timestamp '4713-01-01 BC' + interval '2147483647 days'", "timestamp '2024-01-01 25:00'",
			"interval 'infinity' - interval 'infinity'", "interval 'infinity' * 0", "interval '2147483647 mons' + interval '1 mon'", "interval '1 mon' * 2147483648", "interval '2147483648 days'", "justify(interval '2147483647 mons 30 days')",
			"make_date(0, 1, 1)", "make_date(2024, 2, 30)", "make_date(- 4714, 1, 1)", "make_date(294277, 1, 1)", "make_date(" + least + ", 1, 1)", "make_date(2024, 13, 1)", "make_date(0, 13, 99)", "extract('year', date 'infinity')", "age(timestamp 'infinity', timestamp 'infinity')", "date_bin(interval '1 mon', timestamp 'epoch', timestamp 'epoch')", "timestamptz '294276-12-31 23:30Z'", "(timestamptz '294276-12-31 23:30Z')::text", "timestamptz '294276-12-31 23:30Z'::timestamp", "timestamptz '294276-12-31 23:30Z'::date", "timestamp '4713-01-01 00:30 BC'::timestamptz", "date '4713-01-01 BC'::timestamptz", "timestamp '4713-01-01 BC' at time zone 'Berlin'", "date_trunc('millennium', timestamp '4713-01-01 BC')",
		},
		api.ErrZero:    {"1 / 0", "1 % 0", "0 / 0", least + " % 0", "1 / (1 - 1)", "1 / 0 + 9223372036854775808", "date_bin(interval '00:00:00', timestamp 'epoch', timestamp 'epoch')", "1 / 0 = 'x'::int", "make_date(1 / 0, 9223372036854775808, 1)"},
		api.ErrZone:    {"timestamp 'epoch' at time zone 'Nowhere'", "timestamptz 'epoch' at time zone ''", "timestamp 'infinity' at time zone 'x'", "timestamptz '2024-01-01 00:00 Nowhere'", "date_trunc('day', timestamptz 'epoch', 'Nowhere')", "date_trunc('x', timestamptz 'epoch', 'Nowhere')", "date_trunc('day', timestamptz 'infinity', 'CEST')", "timestamp 'epoch' at time zone 'CET'"},
		api.ErrLiteral: {"date 'x'", "date ''", "date '2024-02-30'", "timestamp '2024-01-01 x'", "timestamptz '2024-01-01 x'", "interval 'x'", "interval ''", "'x'::date", "'x'::timestamp", "'x'::timestamptz", "'x'::interval", "'x'::int", "''::int", "'1.0'::int", "'1.5'::int", "' 1'::int", "'1e5'::numeric", "'x'::numeric", "'1.0000000001'::numeric", "1.0000000001", "1.0000000001 + 9223372036854775808", "extract('x', date 'epoch')", "extract('timezone', date 'epoch')", "extract('', interval '1 day')", "extract('week', interval '1 day')", "extract('x', date 'infinity')", "date_trunc('x', timestamp 'epoch')", "date_trunc('x', timestamptz 'epoch')", "date_trunc('dow', timestamptz 'epoch', 'UTC')", "date_trunc('x', timestamp 'infinity')", "date 'x' + 1 / 0"},
	} {
		for _, text := range texts {
			fails(t, s, text, e, 0)
			n, _, _ := expr.Parse(text)
			if l, got := s.Eval(n, 10); text != "timestamptz '294276-12-31 23:30Z'" && (l != nil || got != e) {
				t.Errorf("Eval(%q) = %v, %d", text, l, got)
			}
		}
	}
	// What can not be written can be reckoned with.
	does(t, s, "isfinite(timestamptz '294276-12-31 23:30Z')", api.KBool, "true")
	does(t, s, "timestamptz '294276-12-31 23:30Z' - interval '1 hour'", api.KTz, "294276-12-31 23:30:00+01")
	does(t, s, "set timezone = 'most'", 0)
	fails(t, s, "timestamptz 'epoch'", api.ErrRange, 0)
	fails(t, s, "timestamptz 'epoch'::text", api.ErrRange, 0)
	does(t, s, "timestamptz 'epoch'::timestamp", api.KStamp, "1970-01-01 16:00:00")
	does(t, s, "set datestyle = 'SQL'", 0)
	does(t, s, "timestamptz 'epoch'", api.KTz, "01/01/1970 16:00:00 MST")
	fails(t, s, "generate_series(timestamptz '294276-12-31 00:00Z', timestamptz '294276-12-31 23:00Z', interval '12 hours')", api.ErrRange, 0)
}

// P24.3: which operations there are not, and where.
func TestNoKind(t *testing.T) {
	s := opened(t, example)
	for text, at := range map[string]int{"1 + true": 2, "f(1)": 0, " 1 + (2 + 'x')": 8, "generate_series(1, 2, 1) + 1": 0, "- date 'x'": 0, "1 / 0 + true": 6, "now()": 0, "date 'x' + (1 + 'y')": 14, "true < false": 5, "1::bool": 1} {
		fails(t, s, text, api.ErrType, at)
	}
	for text, at := range map[string]int{"": 0, " ": 1, "1 +": 3, "1 2": 2, "'x": 0, "1; 2": 1, "select 1": 7, "x": 1} {
		fails(t, s, text, api.ErrSyntax, at)
	}
	fails(t, s, strings.Repeat("(", 21)+"1"+strings.Repeat(")", 21), api.ErrDeep, 20)
}

// P24.2: a value has its kind's part, and nothing else.
func TestValues(t *testing.T) {
	s := opened(t, example)
	for text, want := range map[string]api.Value{
		"true": {K: api.KBool, Bool: true}, "1 = 2": {K: api.KBool}, "- 5": {K: api.KInt, Int: -5}, "12.340": {K: api.KDec, Int: 12340, Scale: 3}, "5::numeric": {K: api.KDec, Int: 5}, "'x'": {K: api.KText, Text: "x"}, "''": {K: api.KText},
		"date '2000-01-02'": {K: api.KDate, Date: api.Date{D: 1}}, "date '-infinity'": {K: api.KDate, Date: api.Date{Inf: -1}}, "timestamp '2000-01-01 00:00:01'": {K: api.KStamp, Stamp: api.Stamp{U: 1000000}}, "timestamptz '2000-01-01 00:00:01+01'": {K: api.KTz, Stamp: api.Stamp{U: -3599000000}}, "timestamptz 'infinity'": {K: api.KTz, Stamp: api.Stamp{Inf: 1}}, "interval '1 mon 2 days 00:00:00.000003'": {K: api.KSpan, Span: api.Span{M: 1, D: 2, U: 3}}, "interval '-infinity'": {K: api.KSpan, Span: api.Span{Inf: -1}},
		"extract('second', timestamp '2000-01-01 00:00:01.5')": {K: api.KDec, Int: 1500000, Scale: 6}, "1.5 * 2": {K: api.KDec, Int: 30, Scale: 1},
	} {
		n, _, _ := expr.Parse(text)
		if l, e := s.Eval(n, 0); e != api.OK || len(l) != 1 || l[0] != want {
			t.Errorf("Eval(%q) = %v, %d, want %v", text, l, e, want)
		}
	}
	for text, want := range map[string][]api.Value{
		"generate_series(5, 6, 1)": {{K: api.KInt, Int: 5}, {K: api.KInt, Int: 6}}, "generate_series(6, 5, 1)": nil,
		"generate_series(timestamp '2000-01-01', timestamp '2000-01-02', interval '1 day')":     {{K: api.KStamp}, {K: api.KStamp, Stamp: api.Stamp{U: 86400000000}}},
		"generate_series(timestamptz '2000-01-01', timestamptz '2000-01-01', interval '1 day')": {{K: api.KTz}},
	} {
		n, _, _ := expr.Parse(text)
		l, e := s.Eval(n, 2)
		if e != api.OK || len(l) != len(want) {
			t.Fatalf("Eval(%q) = %v, %d", text, l, e)
		}
		for i := range want {
			if l[i] != want[i] {
				t.Errorf("Eval(%q) = %v, want %v", text, l, want)
			}
		}
	}
}

// P24.2: of a node that expr would not tell it ends, too.
func TestEvalEnds(t *testing.T) {
	s := opened(t, example)
	for _, n := range []expr.Node{{}, {Kind: -1}, {Kind: 11}, {Kind: expr.Op, Text: "+"}, {Kind: expr.Lit, Text: "date"}, {Kind: expr.Neg}, {Kind: expr.Cast, Text: "int"}, {Kind: expr.Call, Text: "generate_series"}} {
		if l, e := s.Eval(n, 5); l != nil || e != api.ErrType {
			t.Error("Eval", n, l, e)
		}
	}
	does(t, s, strings.Repeat("1+", 1023)+"1", api.KInt, "1024")
	does(t, s, strings.Repeat("- ", 20)+"1", api.KInt, "1")
}
