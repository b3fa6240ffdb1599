package span

import (
	"math"
	"slices"
	"strconv"
	"strings"
	"testing"

	"transom/api"
)

const (
	top  = math.MaxUint64
	many = api.MaxSpans
	wide = 7 // how many numbers a small set is chosen from
)

// spans is the list of these ends: from, to, from, to ..
func spans(ends ...uint64) []api.Span {
	var l []api.Span
	for i := 0; i+1 < len(ends); i += 2 {
		l = append(l, api.Span{From: ends[i], To: ends[i+1]})
	}
	return l
}

func span(from, to uint64) api.Span {
	return api.Span{From: from, To: to}
}

// row is n spans of 2 numbers, the first one from 10, with one number between each and the next.
func row(n int) []api.Span {
	var l []api.Span
	for i := range uint64(n) {
		l = append(l, span(10+3*i, 12+3*i))
	}
	return l
}

func text(l []api.Span) string {
	var s []string
	for _, x := range l {
		s = append(s, strconv.FormatUint(x.From, 10)+".."+strconv.FormatUint(x.To, 10))
	}
	return "[" + strings.Join(s, " ") + "]"
}

// set is the small numbers whose bits are 1.
type set uint

func (s set) has(n uint64) bool { return s>>n&1 == 1 }

// between is the set of the numbers of x.
func between(x api.Span) set {
	return set(1)<<x.To - set(1)<<x.From
}

// list is the list of a set's spans, base added to each of its numbers.
func (s set) list(base uint64) []api.Span {
	var l []api.Span
	for n := uint64(0); n < wide; n++ {
		if !s.has(n) {
			continue
		}
		from := n
		for s.has(n) {
			n++
		}
		l = append(l, span(base+from, base+n))
	}
	return l
}

// eachSet calls do with every small set, beginning at 0, at a number in the midst, and up to 2^64 - 2, the greatest number that a span may have.
func eachSet(do func(base uint64, s set, l []api.Span)) {
	for _, base := range []uint64{0, 1 << 32, top - wide} {
		for s := range set(1) << wide {
			do(base, s, s.list(base))
		}
	}
}

// eachSpan calls do with every span of small numbers, empty ones among them.
func eachSpan(do func(x api.Span)) {
	for from := range uint64(wide + 1) {
		for to := from; to <= wide; to++ {
			do(span(from, to))
		}
	}
}

func moved(x api.Span, by uint64) api.Span {
	return span(x.From+by, x.To+by)
}

// bad is the lists that may not be.
func bad() [][]api.Span {
	return [][]api.Span{
		spans(5, 5),
		spans(6, 5),
		spans(top, 0),
		spans(0, 0),
		spans(top, top),
		spans(1, 2, 2, 3),
		spans(1, 3, 2, 4),
		spans(1, 9, 2, 4),
		spans(1, 2, 1, 2),
		spans(4, 5, 1, 2),
		spans(1, 2, 4, 4),
		spans(1, 2, 5, 4, 6, 8),
		spans(1, 2, 4, 6, 6, 8),
		row(many + 1),
	}
}

// P2.1: what is in order, with a gap between each and the next.
func TestMay(t *testing.T) {
	for _, l := range [][]api.Span{
		nil,
		{},
		spans(0, 1),
		spans(0, top),
		spans(top-1, top),
		spans(0, 1, 2, 3),
		spans(0, 1, top-1, top),
		spans(1, 2, 4, 6, 7, 8),
		row(many - 1),
		row(many),
	} {
		if !May(l) {
			t.Errorf("May(%s) = false", text(l))
		}
	}
	for _, l := range bad() {
		if May(l) {
			t.Errorf("May(%s) = true", text(l))
		}
	}
}

// P2.1: of two spans of small numbers, each as the chapter's words tell.
func TestMayOfTwo(t *testing.T) {
	for n := range uint64(5 * 5 * 5 * 5) {
		l := spans(n%5, n/5%5, n/25%5, n/125)
		want := l[0].From < l[0].To && l[1].From < l[1].To && l[0].To < l[1].From
		if May(l) != want {
			t.Errorf("May(%s) = %t", text(l), !want)
		}
	}
}

// try checks what a call answers, and that it left its list as it was.
func try(t *testing.T, call string, do func([]api.Span, api.Span) ([]api.Span, api.Errno), l []api.Span, x api.Span, want []api.Span, err api.Errno) {
	t.Helper()
	was := slices.Clone(l)
	got, e := do(l, x)
	if !slices.Equal(got, want) || e != err {
		t.Errorf("%s(%s, %s) = %s, %v, not %s, %v", call, text(l), text([]api.Span{x}), text(got), e, text(want), err)
	}
	if !slices.Equal(l, was) {
		t.Errorf("%s has made %s of %s", call, text(l), text(was))
	}
}

// P2.2: what a list becomes by a span that lies below, above, within, over, next to those that it has.
func TestAdd(t *testing.T) {
	l := spans(10, 20, 30, 40)
	for _, c := range []struct {
		l    []api.Span
		x    api.Span
		want []api.Span
	}{
		{nil, span(5, 9), spans(5, 9)},
		{nil, span(5, 5), nil},
		{l, span(2, 4), spans(2, 4, 10, 20, 30, 40)},
		{l, span(22, 28), spans(10, 20, 22, 28, 30, 40)},
		{l, span(50, 60), spans(10, 20, 30, 40, 50, 60)},
		{l, span(12, 18), l},
		{l, span(10, 20), l},
		{l, span(5, 10), spans(5, 20, 30, 40)},
		{l, span(5, 9), spans(5, 9, 10, 20, 30, 40)},
		{l, span(20, 25), spans(10, 25, 30, 40)},
		{l, span(21, 25), spans(10, 20, 21, 25, 30, 40)},
		{l, span(20, 30), spans(10, 40)},
		{l, span(15, 35), spans(10, 40)},
		{l, span(0, 100), spans(0, 100)},
		{l, span(25, 25), l},
		{l, span(15, 15), l},
		{l, span(20, 20), l},
		{l, span(10, 10), l},
		{l, span(0, 0), l},
		{l, span(top, top), l},
		{l, span(top-1, top), spans(10, 20, 30, 40, top-1, top)},
		{l, span(0, 1), spans(0, 1, 10, 20, 30, 40)},
		{l, span(0, top), spans(0, top)},
		{spans(0, 5, top-5, top), span(5, top-5), spans(0, top)},
		{spans(0, top), span(0, top), spans(0, top)},
	} {
		try(t, "Add", Add, c.l, c.x, c.want, api.OK)
	}
}

// P2.2: what is left of a list behind a cut.
func TestCut(t *testing.T) {
	l := spans(10, 20, 30, 40)
	for _, c := range []struct {
		l    []api.Span
		x    api.Span
		want []api.Span
	}{
		{nil, span(5, 9), nil},
		{l, span(2, 4), l},
		{l, span(5, 10), l},
		{l, span(20, 30), l},
		{l, span(40, 50), l},
		{l, span(5, 12), spans(12, 20, 30, 40)},
		{l, span(10, 12), spans(12, 20, 30, 40)},
		{l, span(18, 20), spans(10, 18, 30, 40)},
		{l, span(18, 25), spans(10, 18, 30, 40)},
		{l, span(13, 14), spans(10, 13, 14, 20, 30, 40)},
		{l, span(15, 35), spans(10, 15, 35, 40)},
		{l, span(10, 20), spans(30, 40)},
		{l, span(30, 40), spans(10, 20)},
		{l, span(10, 40), nil},
		{l, span(0, top), nil},
		{l, span(25, 25), l},
		{l, span(15, 15), l},
		{l, span(10, 10), l},
		{l, span(20, 20), l},
		{l, span(0, 0), l},
		{l, span(top, top), l},
		{spans(0, top), span(0, 1), spans(1, top)},
		{spans(0, top), span(top-1, top), spans(0, top-1)},
		{spans(0, top), span(1, top-1), spans(0, 1, top-1, top)},
		{spans(0, top), span(0, top), nil},
	} {
		try(t, "Cut", Cut, c.l, c.x, c.want, api.OK)
	}
}

// P2.2: ErrForm of a list that may not be, ahead of ErrArg; ErrArg, if From is above To; no list beside them.
func TestRefused(t *testing.T) {
	for _, l := range bad() {
		for _, x := range spans(1, 2, 3, 3, 0, top, 7, 1, top, 0) {
			try(t, "Add", Add, l, x, nil, api.ErrForm)
			try(t, "Cut", Cut, l, x, nil, api.ErrForm)
		}
	}
	for _, l := range [][]api.Span{nil, spans(10, 20, 30, 40), row(many)} {
		for _, x := range spans(1, 0, 31, 30, top, top-1, top, 0) {
			try(t, "Add", Add, l, x, nil, api.ErrArg)
			try(t, "Cut", Cut, l, x, nil, api.ErrArg)
		}
	}
}

// P2.2: a list takes MaxSpans spans, and one more by neither call.
func TestFull(t *testing.T) {
	full, end := row(many), uint64(10+3*many) // no number from end on is one of full
	try(t, "Add", Add, row(many-1), span(end-3, end-1), full, api.OK)
	try(t, "Add", Add, full, span(end, end+1), nil, api.ErrFull)
	try(t, "Add", Add, full, span(0, 9), nil, api.ErrFull)
	try(t, "Add", Add, full, span(top-1, top), nil, api.ErrFull)
	try(t, "Add", Add, full, span(9, 10), append(spans(9, 12), full[1:]...), api.OK)
	try(t, "Add", Add, full, span(12, 13), append(spans(10, 15), full[2:]...), api.OK)
	try(t, "Add", Add, full, span(10, 12), full, api.OK)
	try(t, "Add", Add, full, span(12, 12), full, api.OK)
	try(t, "Add", Add, full, span(end, end), full, api.OK)
	try(t, "Add", Add, full, span(0, top), spans(0, top), api.OK)
	try(t, "Cut", Cut, full, span(10, 11), append(spans(11, 12), full[1:]...), api.OK)
	try(t, "Cut", Cut, full, span(10, 12), full[1:], api.OK)
	try(t, "Cut", Cut, full, span(11, 11), full, api.OK)
	try(t, "Cut", Cut, full, span(0, top), nil, api.OK)

	broad := append(spans(1, 4), row(many-1)...)
	try(t, "Cut", Cut, broad, span(2, 3), nil, api.ErrFull)
	try(t, "Cut", Cut, broad, span(2, 11), append(spans(1, 2, 11, 12), row(many - 1)[1:]...), api.OK)
	try(t, "Cut", Cut, broad[:many-1], span(2, 3), append(spans(1, 2, 3, 4), row(many-2)...), api.OK)
}

// P2.2, P2.4: what is added is there, what is cut is not, all else is as it was: of every small set, and every span.
func TestAddAndCutOfSets(t *testing.T) {
	eachSet(func(base uint64, s set, l []api.Span) {
		if !May(l) {
			t.Fatalf("May(%s) = false", text(l))
		}
		eachSpan(func(x api.Span) {
			try(t, "Add", Add, l, moved(x, base), (s | between(x)).list(base), api.OK)
			try(t, "Cut", Cut, l, moved(x, base), (s &^ between(x)).list(base), api.OK)
		})
	})
}

// P2.3: Has, Gap and Len of every small set, Covers of every span as well.
func TestAsksOfSets(t *testing.T) {
	eachSet(func(base uint64, s set, l []api.Span) {
		size, gap := uint64(0), uint64(wide)
		for n := uint64(wide); n+1 > 0; n-- {
			if s.has(n) {
				size++
			} else {
				gap = n
			}
			if Has(l, base+n) != s.has(n) {
				t.Errorf("Has(%s, %d) = %t", text(l), base+n, !s.has(n))
			}
			if got := Gap(l, base+n); got != base+gap {
				t.Errorf("Gap(%s, %d) = %d", text(l), base+n, got)
			}
		}
		if Len(l) != size {
			t.Errorf("Len(%s) = %d", text(l), Len(l))
		}
		eachSpan(func(x api.Span) {
			if want := between(x)&^s == 0; Covers(l, moved(x, base)) != want {
				t.Errorf("Covers(%s, %s) = %t", text(l), text([]api.Span{moved(x, base)}), !want)
			}
		})
	})
}

// P2.3: next to 0 and to 2^64 - 1, which is a number of no list.
func TestAsksAtTheEnds(t *testing.T) {
	all := spans(0, top)
	if !Has(all, 0) || !Has(all, top-1) || Has(all, top) || Has(nil, 0) || Has(nil, top) {
		t.Error("Has")
	}
	if Gap(all, 0) != top || Gap(all, top-1) != top || Gap(all, top) != top || Gap(nil, top) != top || Gap(nil, 0) != 0 {
		t.Error("Gap")
	}
	if Len(all) != top || Len(nil) != 0 || Len(spans(0, 1, top-1, top)) != 2 || Len(row(many)) != 2*many {
		t.Error("Len")
	}
	if !Covers(all, span(0, top)) || !Covers(all, span(top, top)) || !Covers(nil, span(0, 0)) || Covers(nil, span(0, 1)) {
		t.Error("Covers")
	}
	if Covers(spans(1, top), span(0, top)) || Covers(spans(0, top-1), span(0, top)) {
		t.Error("Covers: one number is missing")
	}
	full := row(many)
	if last := full[many-1]; !Has(full, last.From) || Gap(full, last.From) != last.To || !Covers(full, last) {
		t.Error("the last one of a full list is not found")
	}
}

// P2.3: false if From is above To, though all between them is there.
func TestCoversTurned(t *testing.T) {
	for _, l := range [][]api.Span{nil, spans(0, top), spans(2, 8)} {
		for _, x := range spans(5, 4, 4, 2, 1, 0, top, 0, top, top-1) {
			if Covers(l, x) {
				t.Errorf("Covers(%s, %s) = true", text(l), text([]api.Span{x}))
			}
		}
	}
}

// P2.3: false and 0 of a list that may not be, whatever is asked.
func TestAsksOfBad(t *testing.T) {
	for _, l := range bad() {
		for _, n := range []uint64{0, 1, 2, 3, 5, 11, 999, top - 1, top} {
			if Has(l, n) || Gap(l, n) != 0 || Covers(l, span(n, n)) || Covers(l, span(1, n)) || Covers(l, span(n, 1)) {
				t.Errorf("%s at %d: %t %d", text(l), n, Has(l, n), Gap(l, n))
			}
		}
		if Len(l) != 0 {
			t.Errorf("Len(%s) = %d", text(l), Len(l))
		}
	}
}

// orders is every order of these spans.
func orders(l []api.Span) [][]api.Span {
	if len(l) == 0 {
		return [][]api.Span{nil}
	}
	var out [][]api.Span
	for i, x := range l {
		rest := slices.Delete(slices.Clone(l), i, i+1)
		for _, o := range orders(rest) {
			out = append(out, append(spans(x.From, x.To), o...))
		}
	}
	return out
}

// P2.4: the order of adding makes no difference.
func TestOrderOfAdding(t *testing.T) {
	for _, c := range []struct{ parts, want []api.Span }{
		{spans(1, 3, 3, 5, 5, 7, 9, 11, 10, 12), spans(1, 7, 9, 12)},
		{spans(0, 1, 2, 3, 4, 5, 1, 2, 3, 4), spans(0, 5)},
		{spans(8, 9, 0, top, 3, 3, top-1, top, 0, 1), spans(0, top)},
		{spans(6, 9, 6, 7, 6, 8, 2, 2, 12, 13), spans(6, 9, 12, 13)},
	} {
		for _, o := range orders(c.parts) {
			var l []api.Span
			for _, x := range o {
				var e api.Errno
				if l, e = Add(l, x); e != api.OK || !May(l) || !Covers(l, x) {
					t.Fatalf("%s is added: %s, %v", text(o), text(l), e)
				}
			}
			if !slices.Equal(l, c.want) {
				t.Errorf("%s are added: %s", text(o), text(l))
			}
		}
	}
}

// R5: an answer shares no memory with the list that was handed in, nor is what stands behind that one written.
func TestNewMemory(t *testing.T) {
	for name, do := range map[string]func([]api.Span, api.Span) ([]api.Span, api.Errno){"Add": Add, "Cut": Cut} {
		for _, x := range spans(0, 0, 4, 6, 100, 110, 3, 4, 8, 9) {
			room := spans(2, 4, 6, 8, 77, 99)
			got, _ := do(room[:2], x)
			for i := range got[:cap(got)] {
				got[:cap(got)][i] = span(1000, 2000)
			}
			if !slices.Equal(room, spans(2, 4, 6, 8, 77, 99)) {
				t.Errorf("%s by %s: %s", name, text([]api.Span{x}), text(room))
			}
		}
	}
}

// The chapter's examples.
func TestExamples(t *testing.T) {
	try(t, "Add", Add, spans(2, 4, 6, 8), span(4, 6), spans(2, 8), api.OK)
	try(t, "Cut", Cut, spans(2, 8), span(3, 5), spans(2, 3, 5, 8), api.OK)
	if Gap(spans(2, 4), 2) != 4 || Gap(spans(2, 4), 0) != 0 {
		t.Error("Gap: the examples do not hold")
	}
}

// What sorts and joins does so with anything that has an order.
func TestJoinedOfTexts(t *testing.T) {
	same := func(a, b string) (string, bool) { return a + b, a[0] == b[0] }
	l := []string{"b1", "a2", "c1", "a1", "b0"}
	if got := joined(l, strings.Compare, same); !slices.Equal(got, []string{"a1a2", "b0b1", "c1"}) {
		t.Error(got)
	}
	if l[0] != "b1" || l[4] != "b0" {
		t.Error("the list that was handed in is sorted")
	}
	if joined(nil, strings.Compare, same) != nil {
		t.Error("something comes of nothing")
	}
}
