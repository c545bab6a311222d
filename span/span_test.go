package span_test

import (
	"cmp"
	"math"
	"math/big"
	"math/rand"
	"slices"
	"testing"

	"computus/api"
	"computus/span"
)

const (
	most     = 2147483647 // months, and days
	dayMicro = 86400000000
	widest   = math.MaxInt64
)

// counts is months or days about all edges.
func counts() []int64 {
	return []int64{math.MinInt64, -most - 2, -most - 1, -most, -most + 1, -most + 30, -61, -60, -59, -31, -30, -29, -2, -1,
		0, 1, 2, 29, 30, 31, 59, 60, 61, most - 30, most - 1, most, most + 1, most + 2, math.MaxInt64}
}

// micros is microseconds about all edges.
func micros() []int64 {
	return []int64{math.MinInt64, -widest, -widest + 1, -30 * dayMicro, -dayMicro - 1, -dayMicro, -dayMicro + 1, -1, 0,
		1, dayMicro - 1, dayMicro, dayMicro + 1, 2*dayMicro - 1, 30 * dayMicro, widest - 1, widest}
}

func infs() []int {
	return []int{0, 1, -1, 2, -2, 3, math.MaxInt, math.MinInt, 256, 1 << 32}
}

// spans is intervals of all edges together, those that can not be among them.
func spans() []api.Span {
	var l []api.Span
	for _, m := range counts() {
		for _, d := range counts() {
			for _, u := range micros() {
				l = append(l, api.Span{M: m, D: d, U: u})
			}
		}
	}
	for _, inf := range infs() {
		for _, s := range []api.Span{{}, {M: 1}, {D: 1}, {U: 1}, {M: -1}, {D: -1}, {U: -1}, {M: most + 1}, {U: math.MinInt64}, {M: 1, D: 1, U: 1}} {
			s.Inf = inf
			l = append(l, s)
		}
	}
	return l
}

// few is an interval of each kind, in pairs of which all may be tried.
func few() []api.Span {
	l := []api.Span{{Inf: 1}, {Inf: -1}, {Inf: 2}, {Inf: -2}, {Inf: 1, M: 1}, {Inf: -1, D: 1}, {Inf: 1, U: 1}, {Inf: -1, U: -1}}
	for _, m := range []int64{-most - 1, -most, -1, 0, 1, most, most + 1} {
		for _, d := range []int64{-most - 1, -most, -30, 0, 30, most, most + 1} {
			for _, u := range []int64{math.MinInt64, -widest, -1, 0, 1, widest} {
				l = append(l, api.Span{M: m, D: d, U: u})
			}
		}
	}
	return l
}

// some is an interval that can be: small, or of any size, or with an Inf.
func some(r *rand.Rand) api.Span {
	count := func() int64 {
		switch r.Intn(4) {
		case 0:
			return 0
		case 1:
			return r.Int63n(200) - 100
		case 2:
			return (most - r.Int63n(200)) * (2*r.Int63n(2) - 1)
		}
		return r.Int63n(2*most+1) - most
	}
	micro := func() int64 {
		switch r.Intn(4) {
		case 0:
			return 0
		case 1:
			return (r.Int63n(9)-4)*dayMicro + r.Int63n(5) - 2
		case 2:
			return (widest - r.Int63n(200)) * (2*r.Int63n(2) - 1)
		}
		return max(-widest, int64(r.Uint64())>>r.Intn(64))
	}
	if r.Intn(20) == 0 {
		return api.Span{Inf: 2*r.Intn(2) - 1}
	}
	return api.Span{M: count(), D: count(), U: micro()}
}

// right is the document's words on an interval.
func right(s api.Span) bool {
	if s.Inf == 1 || s.Inf == -1 {
		return s.M == 0 && s.D == 0 && s.U == 0
	}
	return s.Inf == 0 && s.M >= -most && s.M <= most && s.D >= -most && s.D <= most && s.U >= -widest
}

// wide is the parts of an interval as numbers of any size.
type wide struct{ m, d, u *big.Int }

func widen(s api.Span) wide {
	return wide{big.NewInt(s.M), big.NewInt(s.D), big.NewInt(s.U)}
}

// narrow is the interval of such parts, if it can be.
func (w wide) narrow() (api.Span, api.Errno) {
	if !w.m.IsInt64() || !w.d.IsInt64() || !w.u.IsInt64() {
		return api.Span{}, api.ErrRange
	}
	s := api.Span{M: w.m.Int64(), D: w.d.Int64(), U: w.u.Int64()}
	if !right(s) {
		return api.Span{}, api.ErrRange
	}
	return s, api.OK
}

// length is that of an interval without Inf.
func length(s api.Span) *big.Int {
	w := widen(s)
	days := new(big.Int).Add(new(big.Int).Mul(w.m, big.NewInt(30)), w.d)
	return days.Add(days.Mul(days, big.NewInt(dayMicro)), w.u)
}

// together is what Add must tell.
func together(a, b api.Span) (api.Span, api.Errno) {
	switch {
	case !right(a) || !right(b):
		return api.Span{}, api.ErrArg
	case a.Inf != 0 && b.Inf == 0 || a.Inf != 0 && a.Inf == b.Inf:
		return a, api.OK
	case a.Inf == 0 && b.Inf != 0:
		return b, api.OK
	case a.Inf != 0:
		return api.Span{}, api.ErrRange
	}
	x, y := widen(a), widen(b)
	return wide{x.m.Add(x.m, y.m), x.d.Add(x.d, y.d), x.u.Add(x.u, y.u)}.narrow()
}

// often is what Mul must tell.
func often(s api.Span, n int64) (api.Span, api.Errno) {
	switch {
	case !right(s):
		return api.Span{}, api.ErrArg
	case s.Inf != 0 && n == 0:
		return api.Span{}, api.ErrRange
	case s.Inf != 0 && n > 0:
		return s, api.OK
	case s.Inf != 0:
		return api.Span{Inf: -s.Inf}, api.OK
	}
	w, by := widen(s), big.NewInt(n)
	return wide{w.m.Mul(w.m, by), w.d.Mul(w.d, by), w.u.Mul(w.u, by)}.narrow()
}

// turned is what Neg must tell.
func turned(s api.Span) (api.Span, api.Errno) {
	if !right(s) {
		return api.Span{}, api.ErrArg
	}
	return api.Span{Inf: -s.Inf, M: -s.M, D: -s.D, U: -s.U}, api.OK
}

// compared is what Cmp must tell.
func compared(a, b api.Span) int {
	switch {
	case !right(a) || !right(b):
		return 0
	case a.Inf != b.Inf:
		return cmp.Compare(a.Inf, b.Inf)
	}
	return length(a).Cmp(length(b))
}

// justified is what Justify must tell, step by step.
func justified(s api.Span) (api.Span, api.Errno) {
	if !right(s) {
		return api.Span{}, api.ErrArg
	}
	if s.Inf != 0 {
		return s, api.OK
	}
	w, one, month, oneDay := widen(s), big.NewInt(1), big.NewInt(30), big.NewInt(dayMicro)
	days := new(big.Int)
	days.QuoRem(w.u, oneDay, w.u)
	w.d.Add(w.d, days)
	if new(big.Int).Abs(w.d).Cmp(big.NewInt(most)) > 0 {
		return api.Span{}, api.ErrRange
	}
	months := new(big.Int)
	months.QuoRem(w.d, month, w.d)
	w.m.Add(w.m, months)
	left := new(big.Int).Mul(w.d, oneDay)
	left.Add(left, w.u)
	if w.m.Sign() > 0 && left.Sign() < 0 {
		w.m.Sub(w.m, one)
		w.d.Add(w.d, month)
	} else if w.m.Sign() < 0 && left.Sign() > 0 {
		w.m.Add(w.m, one)
		w.d.Sub(w.d, month)
	}
	if w.d.Sign() > 0 && w.u.Sign() < 0 {
		w.d.Sub(w.d, one)
		w.u.Add(w.u, oneDay)
	} else if w.d.Sign() < 0 && w.u.Sign() > 0 {
		w.d.Add(w.d, one)
		w.u.Sub(w.u, oneDay)
	}
	return w.narrow()
}

// P16.1: which intervals can be, and Make of those.
func TestRight(t *testing.T) {
	count := 0
	for _, s := range spans() {
		if got := span.Right(s); got != right(s) {
			t.Errorf("Right(%v) is %v", s, got)
		}
		if right(s) {
			count++
		}
		if s.Inf != 0 {
			continue
		}
		want, wantE := s, api.OK
		if !right(s) {
			want, wantE = api.Span{}, api.ErrRange
		}
		if got, e := span.Make(s.M, s.D, s.U); got != want || e != wantE {
			t.Errorf("Make of %v is %v, %d", s, got, e)
		}
	}
	if count < 8000 {
		t.Error("too few intervals can be:", count)
	}
}

// P16.1: some of each edge by hand.
func TestMake(t *testing.T) {
	for _, x := range []struct {
		m, d, u int64
		e       api.Errno
	}{
		{0, 0, 0, api.OK}, {1, -2, 3, api.OK},
		{most, most, widest, api.OK}, {-most, -most, -widest, api.OK},
		{most + 1, 0, 0, api.ErrRange}, {-most - 1, 0, 0, api.ErrRange},
		{0, most + 1, 0, api.ErrRange}, {0, -most - 1, 0, api.ErrRange},
		{0, 0, math.MinInt64, api.ErrRange}, {1 << 32, 0, 0, api.ErrRange}, {0, 1 << 32, 0, api.ErrRange},
	} {
		want := api.Span{M: x.m, D: x.d, U: x.u}
		if x.e != api.OK {
			want = api.Span{}
		}
		if got, e := span.Make(x.m, x.d, x.u); got != want || e != x.e {
			t.Errorf("Make(%d, %d, %d) is %v, %d", x.m, x.d, x.u, got, e)
		}
	}
}

// P16.1: the other way, and back.
func TestNeg(t *testing.T) {
	for _, s := range spans() {
		want, wantE := turned(s)
		got, e := span.Neg(s)
		if got != want || e != wantE {
			t.Fatalf("Neg(%v) is %v, %d", s, got, e)
		}
		if e != api.OK {
			continue
		}
		if back, e := span.Neg(got); back != s || e != api.OK {
			t.Fatalf("Neg(%v) is %v, %d", got, back, e)
		}
	}
	if got, e := span.Neg(api.Span{M: 1, D: -2, U: 3}); got != (api.Span{M: -1, D: 2, U: -3}) || e != api.OK {
		t.Error("Neg(1, -2, 3) is", got, e)
	}
	if got, e := span.Neg(api.Span{Inf: -1}); got != (api.Span{Inf: 1}) || e != api.OK {
		t.Error("Neg of what is ahead of all is", got, e)
	}
}

// askPair holds what is told of two intervals against the words: P16.1, P16.2, P16.4, P16.6.
func askPair(t *testing.T, a, b api.Span) {
	t.Helper()
	want, wantE := together(a, b)
	sum, e := span.Add(a, b)
	if sum != want || e != wantE {
		t.Fatalf("Add(%v, %v) is %v, %d; not %v, %d", a, b, sum, e, want, wantE)
	}
	if round, roundE := span.Add(b, a); round != sum || roundE != e {
		t.Fatalf("Add(%v, %v) is %v, %d; the other way round %v, %d", a, b, sum, e, round, roundE)
	}
	if e == api.OK && a.Inf == 0 && b.Inf == 0 {
		if rest, e := span.Sub(sum, b); rest != a || e != api.OK {
			t.Fatalf("Sub(%v, %v) is %v, %d", sum, b, rest, e)
		}
	}
	if back, e := turned(b); e == api.OK {
		want, wantE = together(a, back)
	} else {
		want, wantE = api.Span{}, e
	}
	if got, e := span.Sub(a, b); got != want || e != wantE {
		t.Fatalf("Sub(%v, %v) is %v, %d; not %v, %d", a, b, got, e, want, wantE)
	}
	order := span.Cmp(a, b)
	if order != compared(a, b) || span.Cmp(b, a) != -order {
		t.Fatalf("Cmp(%v, %v) is %d, and round %d", a, b, order, span.Cmp(b, a))
	}
	x, _ := span.Neg(a)
	y, _ := span.Neg(b)
	if right(a) && right(b) && span.Cmp(y, x) != order {
		t.Fatalf("Cmp(%v, %v) is %d, and of both turned %d", a, b, order, span.Cmp(y, x))
	}
}

// P16.1, P16.2, P16.4, P16.6: all pairs of edges, and many others.
func TestPairs(t *testing.T) {
	l := few()
	for _, a := range l {
		for _, b := range l {
			askPair(t, a, b)
		}
	}
	r := rand.New(rand.NewSource(1601))
	for range 60000 {
		a, b := some(r), some(r)
		askPair(t, a, b)
		// As long, or a little longer, in another form.
		c := api.Span{M: a.M + 1, D: a.D - 30, U: a.U}
		askPair(t, a, c)
		c = api.Span{M: a.M, D: a.D + 1, U: a.U - dayMicro + r.Int63n(3) - 1}
		askPair(t, a, c)
	}
}

// P16.1: Infs together and apart.
func TestInfs(t *testing.T) {
	up, down, one := api.Span{Inf: 1}, api.Span{Inf: -1}, api.Span{M: 1, D: 1, U: 1}
	for _, x := range []struct {
		a, b, sum, rest api.Span
		sumE, restE     api.Errno
	}{
		{up, up, up, api.Span{}, api.OK, api.ErrRange},
		{down, down, down, api.Span{}, api.OK, api.ErrRange},
		{up, down, api.Span{}, up, api.ErrRange, api.OK},
		{down, up, api.Span{}, down, api.ErrRange, api.OK},
		{up, one, up, up, api.OK, api.OK},
		{down, one, down, down, api.OK, api.OK},
		{one, up, up, down, api.OK, api.OK},
		{one, down, down, up, api.OK, api.OK},
		{up, api.Span{Inf: -1, M: 1}, api.Span{}, api.Span{}, api.ErrArg, api.ErrArg},
		{api.Span{Inf: 3}, down, api.Span{}, api.Span{}, api.ErrArg, api.ErrArg},
		{api.Span{U: math.MinInt64}, one, api.Span{}, api.Span{}, api.ErrArg, api.ErrArg},
		{one, api.Span{U: math.MinInt64}, api.Span{}, api.Span{}, api.ErrArg, api.ErrArg},
	} {
		if got, e := span.Add(x.a, x.b); got != x.sum || e != x.sumE {
			t.Errorf("Add(%v, %v) is %v, %d", x.a, x.b, got, e)
		}
		if got, e := span.Sub(x.a, x.b); got != x.rest || e != x.restE {
			t.Errorf("Sub(%v, %v) is %v, %d", x.a, x.b, got, e)
		}
	}
}

// P16.1: each part alone may leave the range, also where it is an int64.
func TestAddEdges(t *testing.T) {
	for _, x := range []struct {
		a, b api.Span
		e    api.Errno
	}{
		{api.Span{M: most}, api.Span{M: 1}, api.ErrRange},
		{api.Span{M: -most}, api.Span{M: -1}, api.ErrRange},
		{api.Span{D: most}, api.Span{D: 1}, api.ErrRange},
		{api.Span{D: -most}, api.Span{D: -1}, api.ErrRange},
		{api.Span{U: widest}, api.Span{U: 1}, api.ErrRange},
		{api.Span{U: -widest}, api.Span{U: -1}, api.ErrRange},
		{api.Span{U: -widest}, api.Span{U: -2}, api.ErrRange},
		{api.Span{U: widest}, api.Span{U: widest}, api.ErrRange},
		{api.Span{M: most, D: most, U: widest}, api.Span{M: -most, D: -most, U: -widest}, api.OK},
		{api.Span{M: most - 1, D: most - 1, U: widest - 1}, api.Span{M: 1, D: 1, U: 1}, api.OK},
	} {
		got, e := span.Add(x.a, x.b)
		if e != x.e || e != api.OK && got != (api.Span{}) {
			t.Errorf("Add(%v, %v) is %v, %d", x.a, x.b, got, e)
		}
	}
}

// P16.2: so many times.
func TestMul(t *testing.T) {
	ask := func(s api.Span, n int64) {
		want, wantE := often(s, n)
		if got, e := span.Mul(s, n); got != want || e != wantE {
			t.Fatalf("Mul(%v, %d) is %v, %d; not %v, %d", s, n, got, e, want, wantE)
		}
	}
	times := append([]int64{-3, 3, 4, -4, 1 << 31, 1 << 32, -1 << 31, -1 << 32, 1 << 33, 1 << 62, -1 << 62, math.MinInt64 + 1}, counts()...)
	for _, s := range spans() {
		for _, n := range times {
			ask(s, n)
		}
	}
	r := rand.New(rand.NewSource(1602))
	for range 60000 {
		s := some(r)
		ask(s, r.Int63n(20)-10)
		ask(s, int64(r.Uint64())>>r.Intn(64))
		// Up to the very edge of one part, and one beyond.
		if s.M != 0 {
			ask(api.Span{M: s.M}, most/s.M)
			ask(api.Span{M: s.M}, most/s.M+1)
		}
		if s.D != 0 {
			ask(api.Span{D: s.D}, most/s.D)
			ask(api.Span{D: s.D}, -(most/s.D)-1)
		}
		if s.U != 0 {
			ask(api.Span{U: s.U}, widest/s.U)
			ask(api.Span{U: s.U}, -(widest/s.U)-1)
		}
	}
}

func TestMulByHand(t *testing.T) {
	for _, x := range []struct {
		s    api.Span
		n    int64
		want api.Span
		e    api.Errno
	}{
		{api.Span{M: 1, D: -2, U: 3}, 5, api.Span{M: 5, D: -10, U: 15}, api.OK},
		{api.Span{M: 1, D: -2, U: 3}, -5, api.Span{M: -5, D: 10, U: -15}, api.OK},
		{api.Span{M: most, D: most, U: widest}, 0, api.Span{}, api.OK},
		{api.Span{M: most, D: most, U: widest}, -1, api.Span{M: -most, D: -most, U: -widest}, api.OK},
		{api.Span{M: 1 << 30}, 2, api.Span{}, api.ErrRange},
		{api.Span{D: 1 << 30}, -2, api.Span{}, api.ErrRange},
		{api.Span{U: 1 << 62}, -2, api.Span{}, api.ErrRange},
		{api.Span{U: 1 << 62}, 2, api.Span{}, api.ErrRange},
		{api.Span{}, math.MinInt64, api.Span{}, api.OK},
		{api.Span{U: 1}, math.MinInt64, api.Span{}, api.ErrRange},
		{api.Span{M: 1}, math.MinInt64, api.Span{}, api.ErrRange},
		{api.Span{Inf: 1}, 0, api.Span{}, api.ErrRange},
		{api.Span{Inf: -1}, 0, api.Span{}, api.ErrRange},
		{api.Span{Inf: 1}, 3, api.Span{Inf: 1}, api.OK},
		{api.Span{Inf: 1}, math.MinInt64, api.Span{Inf: -1}, api.OK},
		{api.Span{Inf: -1}, math.MaxInt64, api.Span{Inf: -1}, api.OK},
		{api.Span{Inf: -1}, -3, api.Span{Inf: 1}, api.OK},
		{api.Span{Inf: 1, U: 1}, 0, api.Span{}, api.ErrArg},
		{api.Span{M: most + 1}, 0, api.Span{}, api.ErrArg},
	} {
		if got, e := span.Mul(x.s, x.n); got != x.want || e != x.e {
			t.Errorf("Mul(%v, %d) is %v, %d", x.s, x.n, got, e)
		}
	}
}

// P16.2: the order by length, of any size, and the sign.
func TestCmp(t *testing.T) {
	order := [][]api.Span{
		{{Inf: -1}},
		{{M: -most, D: -most, U: -widest}},
		{{M: -most, D: -most, U: -widest + 1}},
		{{M: -2}, {D: -60}, {M: -1, D: -30}, {M: -1, D: -29, U: -dayMicro}},
		{{M: -1}, {D: -30}, {U: -30 * dayMicro}, {M: 1, D: -60}},
		{{D: -1}, {U: -dayMicro}, {D: 1, U: -2 * dayMicro}},
		{{U: -1}, {D: -1, U: dayMicro - 1}, {M: 1, D: -30, U: -1}},
		{{}, {M: 1, D: -30}, {M: -1, D: 30}, {D: 1, U: -dayMicro}, {D: -1, U: dayMicro}, {M: 1, D: -29, U: -dayMicro}},
		{{U: 1}, {D: 1, U: 1 - dayMicro}},
		{{D: 1}, {U: dayMicro}, {M: 1, D: -29}},
		{{D: 1, U: 1}, {U: dayMicro + 1}},
		{{M: 1}, {D: 30}, {U: 30 * dayMicro}},
		{{M: most}, {M: most - 1, D: 30}},
		{{M: most, D: most, U: widest - 1}},
		{{M: most, D: most, U: widest}},
		{{Inf: 1}},
	}
	for i, same := range order {
		for j, others := range order {
			for _, a := range same {
				for _, b := range others {
					if got := span.Cmp(a, b); got != cmp.Compare(i, j) {
						t.Errorf("Cmp(%v, %v) is %d", a, b, got)
					}
				}
			}
		}
	}
	wrong := []api.Span{{Inf: 2}, {Inf: -2}, {Inf: 1, M: 1}, {Inf: -1, D: 1}, {Inf: -1, U: 1}, {M: most + 1}, {D: -most - 1}, {U: math.MinInt64}, {M: math.MinInt64}, {D: math.MaxInt64, U: widest}}
	for _, a := range wrong {
		if span.Sign(a) != 0 {
			t.Errorf("Sign(%v) is not 0", a)
		}
		for _, b := range append(slices.Concat(order...), wrong...) {
			if span.Cmp(a, b) != 0 || span.Cmp(b, a) != 0 {
				t.Errorf("Cmp of %v and %v is not 0", a, b)
			}
		}
	}
}

// P16.2: the sign is that of the length.
func TestSign(t *testing.T) {
	ask := func(s api.Span) {
		want := compared(s, api.Span{})
		if got := span.Sign(s); got != want || got != span.Cmp(s, api.Span{}) {
			t.Fatalf("Sign(%v) is %d", s, got)
		}
	}
	for _, s := range spans() {
		ask(s)
	}
	r := rand.New(rand.NewSource(1603))
	for range 40000 {
		s := some(r)
		ask(s)
		ask(api.Span{M: s.M % 1000000, D: -30 * (s.M % 1000000), U: r.Int63n(3) - 1})
		ask(api.Span{D: s.D % 1000000, U: -dayMicro*(s.D%1000000) + r.Int63n(3) - 1})
	}
}

// askJustify holds Justify against the words, and against what follows of them: P16.3, P16.5.
func askJustify(t *testing.T, s api.Span) {
	t.Helper()
	want, wantE := justified(s)
	got, e := span.Justify(s)
	if got != want || e != wantE {
		t.Fatalf("Justify(%v) is %v, %d; not %v, %d", s, got, e, want, wantE)
	}
	if e != api.OK || s.Inf != 0 {
		return
	}
	if length(got).Cmp(length(s)) != 0 {
		t.Fatalf("Justify(%v) is %v, of another length", s, got)
	}
	above := got.M > 0 || got.D > 0 || got.U > 0
	below := got.M < 0 || got.D < 0 || got.U < 0
	if above && below {
		t.Fatalf("Justify(%v) is %v, of two signs", s, got)
	}
	if again, e := span.Justify(got); again != got || e != api.OK {
		t.Fatalf("Justify(%v) is %v, %d", got, again, e)
	}
	if got.D <= -30 || got.D >= 30 || got.U <= -dayMicro || got.U >= dayMicro {
		t.Fatalf("Justify(%v) is %v: more whole ones are left", s, got)
	}
}

// P16.3, P16.5: all edges, small ones all together, and many others.
func TestJustify(t *testing.T) {
	for _, s := range spans() {
		askJustify(t, s)
	}
	for m := int64(-3); m <= 3; m++ {
		for d := int64(-95); d <= 95; d++ {
			for u := int64(-6); u <= 6; u++ {
				askJustify(t, api.Span{M: m, D: d, U: u * dayMicro / 2})
				askJustify(t, api.Span{M: m, D: d, U: u*dayMicro + 1})
				askJustify(t, api.Span{M: m, D: d, U: u*dayMicro - 1})
			}
		}
	}
	r := rand.New(rand.NewSource(1604))
	for range 100000 {
		askJustify(t, some(r))
		// About the edge of what months can be, with days and microseconds either way.
		sign := 2*r.Int63n(2) - 1
		askJustify(t, api.Span{M: sign * (most - r.Int63n(4)), D: r.Int63n(200) - 100, U: r.Int63n(9*dayMicro) - 4*dayMicro})
		askJustify(t, api.Span{M: r.Int63n(3) - 1, D: sign * (most - r.Int63n(4)), U: r.Int63n(9*dayMicro) - 4*dayMicro})
	}
}

func TestJustifyByHand(t *testing.T) {
	for _, x := range []struct {
		s, want api.Span
		e       api.Errno
	}{
		{api.Span{D: 35, U: 90000000000}, api.Span{M: 1, D: 6, U: 3600000000}, api.OK},
		{api.Span{D: -35, U: -90000000000}, api.Span{M: -1, D: -6, U: -3600000000}, api.OK},
		{api.Span{M: 1, U: -1}, api.Span{D: 29, U: dayMicro - 1}, api.OK},
		{api.Span{M: -1, U: 1}, api.Span{D: -29, U: 1 - dayMicro}, api.OK},
		{api.Span{M: 1, D: -31}, api.Span{D: -1}, api.OK},
		{api.Span{M: 2, D: -31}, api.Span{D: 29}, api.OK},
		{api.Span{M: 1, D: -30}, api.Span{}, api.OK},
		{api.Span{D: 1, U: -1}, api.Span{U: dayMicro - 1}, api.OK},
		{api.Span{D: -1, U: 1}, api.Span{U: 1 - dayMicro}, api.OK},
		{api.Span{M: 1, D: 1, U: -1}, api.Span{M: 1, U: dayMicro - 1}, api.OK},
		{api.Span{Inf: 1}, api.Span{Inf: 1}, api.OK},
		{api.Span{Inf: -1}, api.Span{Inf: -1}, api.OK},
		{api.Span{M: most, D: 29, U: dayMicro - 1}, api.Span{M: most, D: 29, U: dayMicro - 1}, api.OK},
		{api.Span{M: most, D: 30}, api.Span{}, api.ErrRange},
		{api.Span{M: -most, D: -30}, api.Span{}, api.ErrRange},
		{api.Span{M: most, D: 29, U: dayMicro}, api.Span{}, api.ErrRange},
		// One month too many, which is lent again.
		{api.Span{M: most, D: 30, U: -1}, api.Span{M: most, D: 29, U: dayMicro - 1}, api.OK},
		{api.Span{M: -most, D: -30, U: 1}, api.Span{M: -most, D: -29, U: 1 - dayMicro}, api.OK},
		{api.Span{M: most, D: 60, U: -1}, api.Span{}, api.ErrRange},
		// Days that can not be behind the first step, though the whole could.
		{api.Span{D: most, U: dayMicro}, api.Span{}, api.ErrRange},
		{api.Span{D: -most, U: -dayMicro}, api.Span{}, api.ErrRange},
		{api.Span{D: most, U: dayMicro - 1}, api.Span{M: 71582788, D: 7, U: dayMicro - 1}, api.OK},
		{api.Span{M: -1, D: most, U: dayMicro}, api.Span{}, api.ErrRange},
		{api.Span{D: most + 1}, api.Span{}, api.ErrArg},
		{api.Span{Inf: 1, D: 1}, api.Span{}, api.ErrArg},
	} {
		if got, e := span.Justify(x.s); got != x.want || e != x.e {
			t.Errorf("Justify(%v) is %v, %d", x.s, got, e)
		}
	}
}

// P6: whatever is given, calls end, and tell what the words say.
func FuzzSpans(f *testing.F) {
	f.Add(0, int64(1), int64(-2), int64(3), 0, int64(0), int64(0), int64(7))
	f.Add(1, int64(0), int64(0), int64(0), -1, int64(0), int64(0), int64(0))
	f.Add(2, int64(math.MinInt64), int64(math.MaxInt64), int64(math.MinInt64), 0, int64(most), int64(-most), int64(widest))
	f.Fuzz(func(t *testing.T, ai int, am, ad, au int64, bi int, bm, bd, bu int64) {
		a, b := api.Span{Inf: ai, M: am, D: ad, U: au}, api.Span{Inf: bi, M: bm, D: bd, U: bu}
		if span.Right(a) != right(a) {
			t.Fatal("Right of", a)
		}
		askPair(t, a, b)
		askJustify(t, a)
		want, wantE := often(a, bu)
		if got, e := span.Mul(a, bu); got != want || e != wantE {
			t.Fatalf("Mul(%v, %d) is %v, %d; not %v, %d", a, bu, got, e, want, wantE)
		}
	})
}
