package mem_test

import (
	"math"
	"slices"
	"strings"
	"testing"

	"muffle/api"
	"muffle/mem"
)

// many are so many regions, each behind the other, from the last one on.
func many(n int) regions {
	var l regions
	for i := range n {
		l = append(l, region(string(rune('a'+i)), 8*(n-i), 1))
	}
	return l
}

// with are the regions, and one more at a place among them.
func with(l regions, i int, r api.Region) regions {
	return slices.Insert(slices.Clone(l), i, r)
}

func goodRegions() map[string]regions {
	good := map[string]regions{
		"none":                      nil,
		"an empty list":             {},
		"one":                       {region("a", 0, 1)},
		"several":                   several(),
		"as many as may be":         many(16),
		"a name as long as may be":  {region(strings.Repeat("n", 16), 8, 1)},
		"names alike":               {region("a", 0, 1), region("A", 8, 1), region("aa", 16, 1), region("a ", 24, 1)},
		"names of any bytes":        {region("\x00", 0, 1), region("\xff\xfe", 8, 1), region(" ", 16, 1), region("7", 24, 1), region("fn", 32, 1)},
		"as long as may be":         {region("a", 0, 512)},
		"the last word":             {region("a", 49144, 1)},
		"long, up to the stack":     {region("a", 49152-4096, 512)},
		"all secret":                {{Name: "a", Size: 1, Secret: true}, {Name: "b", Addr: 8, Size: 1, Secret: true}},
		"touching":                  {region("a", 8, 2), region("b", 24, 1), region("c", 0, 1)},
		"one that fits between":     {region("a", 0, 2), region("c", 24, 2), region("b", 16, 1)},
		"all bytes below the stack": nil,
	}
	for i := range 12 {
		good["all bytes below the stack"] = append(good["all bytes below the stack"], region(strings.Repeat("x", i+1), 4096*i, 512))
	}
	return good
}

func badRegions() map[string]regions {
	bad := map[string]regions{
		"one more than may be":        many(17),
		"many more":                   many(70),
		"no name":                     {region("", 0, 1)},
		"a name too long":             {region(strings.Repeat("n", 17), 0, 1)},
		"a name much too long":        {region(strings.Repeat("n", 1000), 0, 1)},
		"two names the same":          {region("a", 0, 1), region("a", 8, 1)},
		"the first and the last name": with(with(many(14), 0, region("z", 800, 1)), 15, region("z", 1600, 1)),
		"the last two names":          with(with(many(14), 14, region("z", 800, 1)), 15, region("z", 1600, 1)),
		"all zero":                    {{}},
	}
	for what, size := range map[string]int{"size 0": 0, "size 513": 513, "size below 0": -1, "the least size": math.MinInt, "the greatest size": math.MaxInt, "a size whose bytes are 8": 1<<61 + 1, "a size whose bytes are 0": 1 << 61} {
		bad[what] = regions{region("a", 0, size)}
	}
	for what, addr := range map[string]int{"address -8": -8, "address -1": -1, "the least address": math.MinInt, "the greatest address": math.MaxInt, "the greatest multiple of 8": math.MaxInt - 7, "the stack": 49152, "the stack's end": 65528, "behind the stack": 65536, "beyond, at 2^32": 1 << 32, "astride": 49148} {
		bad[what] = regions{region("a", addr, 1)}
	}
	for addr := 1; addr < 8; addr++ {
		bad["address "+string(rune('0'+addr))] = regions{region("a", addr, 1)}
		bad["address 64 and "+string(rune('0'+addr))] = regions{region("a", 64+addr, 1)}
	}
	bad["a word beyond"] = regions{region("a", 49144, 2)}
	bad["long, a word beyond"] = regions{region("a", 49152-4096+8, 512)}
	return bad
}

// meeting are two regions each that have bytes in common.
func meeting() map[string]regions {
	return map[string]regions{
		"the same bytes":      {region("a", 64, 3), region("b", 64, 3)},
		"the same word":       {region("a", 64, 1), region("b", 64, 1)},
		"the same beginning":  {region("a", 64, 3), region("b", 64, 1)},
		"the same end":        {region("a", 64, 3), region("b", 80, 1)},
		"within":              {region("a", 64, 3), region("b", 72, 1)},
		"a word at the end":   {region("a", 64, 3), region("b", 80, 9)},
		"a word at the front": {region("a", 64, 3), region("b", 56, 2)},
		"the longest":         {region("a", 0, 512), region("b", 4088, 512)},
	}
}

// P3.1: May, New and Of, of regions that may be.
func TestGoodRegions(t *testing.T) {
	for what, l := range goodRegions() {
		if !mem.May(l...) {
			t.Errorf("%s: may not be", what)
		}
		want := newModel(l)
		m, e := mem.New(l...)
		if e != api.OK {
			t.Errorf("%s: New: %v", what, e)
			continue
		}
		wantLike(t, what+": New", m, want)
		words := want.words()
		for i, r := range l {
			for j := range words[i] {
				words[i][j] = uint64(i)<<60 + uint64(j) + 1
				want.setWord(uint64(r.Addr+8*j), words[i][j])
			}
		}
		if m, e = mem.Of(l, words); e != api.OK {
			t.Errorf("%s: Of: %v", what, e)
			continue
		}
		wantLike(t, what+": Of", m, want)
	}
}

func wantBadRegions(t *testing.T, what string, l regions) {
	t.Helper()
	if mem.May(l...) {
		t.Errorf("%s: may be", what)
	}
	if m, e := mem.New(l...); e != api.ErrArg || m != nil {
		t.Errorf("%s: New: %v", what, e)
	}
	words := make(lists, len(l))
	for i, r := range l {
		if r.Size > 0 && r.Size < 1000 {
			words[i] = make([]uint64, r.Size)
		}
	}
	if m, e := mem.Of(l, words); e != api.ErrArg || m != nil {
		t.Errorf("%s: Of: %v", what, e)
	}
}

// P3.1: May, New and Of, of regions that may not be, wherever they stand.
func TestBadRegions(t *testing.T) {
	for what, l := range badRegions() {
		wantBadRegions(t, what, l)
		wantBadRegions(t, what+", behind others", append(regions{region("first", 4096, 1), region("second", 5120, 4)}, l...))
		wantBadRegions(t, what+", ahead of others", append(slices.Clone(l), region("first", 4096, 1), region("second", 5120, 4)))
	}
}

// P3.1: regions that meet, in any order, wherever the two stand.
func TestMeetingRegions(t *testing.T) {
	for what, l := range meeting() {
		wantBadRegions(t, what, l)
		wantBadRegions(t, what+", turned", regions{l[1], l[0]})
		others := regions{region("c", 8192, 1), region("d", 16384, 2), region("e", 12288, 3)}
		for i := range 4 {
			for j := range 5 {
				wantBadRegions(t, what+", among others", with(with(others, i, l[0]), j, l[1]))
			}
		}
	}
	// Each two of sixteen.
	for i := range 16 {
		for j := range i {
			l := many(16)
			l[i].Addr = l[j].Addr
			wantBadRegions(t, "two of sixteen", l)
			l = many(16)
			l[i].Name = l[j].Name
			wantBadRegions(t, "two of sixteen names", l)
		}
	}
}

// P3.1: each two regions of up to three words near each other may be just if no byte is in common.
func TestNearRegions(t *testing.T) {
	for addr := range 9 {
		for size := 1; size <= 3; size++ {
			for size2 := 1; size2 <= 3; size2++ {
				a, b := region("a", 32, size), region("b", 8*addr, size2)
				common := false
				for i := range 8 * size {
					at := 32 + i
					common = common || at >= 8*addr && at < 8*addr+8*size2
				}
				if mem.May(a, b) == common || mem.May(b, a) == common {
					t.Errorf("%v, %v: in common: %v", a, b, common)
				}
			}
		}
	}
}

// P3.1: Of refuses lists that are not as many or as long as the regions.
func TestOfLists(t *testing.T) {
	l := regions{region("a", 64, 2), region("b", 0, 1)}
	for what, words := range map[string]lists{
		"none":                   nil,
		"an empty list":          {},
		"one list":               {{1, 2}},
		"a list more":            {{1, 2}, {3}, {4}},
		"an empty list more":     {{1, 2}, {3}, nil},
		"an empty list ahead":    {nil, {1, 2}, {3}},
		"the other way round":    {{3}, {1, 2}},
		"a word less":            {{1}, {3}},
		"a word more":            {{1, 2, 3}, {3}},
		"the last, a word less":  {{1, 2}, {}},
		"the last, nil":          {{1, 2}, nil},
		"the last, a word more":  {{1, 2}, {3, 4}},
		"as many words, shifted": {{1}, {2, 3}},
		"far too long":           {make([]uint64, 10000), {3}},
	} {
		if m, e := mem.Of(l, words); e != api.ErrArg || m != nil {
			t.Errorf("%s: %v", what, e)
		}
	}
	for what, words := range map[string]lists{"a list": {{}}, "nil": {nil}, "a word": {{1}}} {
		if m, e := mem.Of(nil, words); e != api.ErrArg || m != nil {
			t.Errorf("no region, and %s: %v", what, e)
		}
	}
	for _, words := range []lists{nil, {}} {
		m, e := mem.Of(regions{}, words)
		if e != api.OK || !mem.Same(m, wantNew(t)) {
			t.Errorf("no region, no list: %v", e)
		}
	}
}

// P3.1: what is handed in is neither changed nor kept.
func TestHandedIn(t *testing.T) {
	l, words := several(), newModel(several()).words()
	words[0][2], words[4][511] = 7, 8
	want := newModel(l)
	want.setWord(80, 7)
	want.setWord(8192+8*511, 8)
	m, e := mem.Of(l, words)
	noughts, e2 := mem.New(l...)
	if e != api.OK || e2 != api.OK || !mem.May(l...) {
		t.Fatal(e, e2)
	}
	if !slices.Equal(l, several()) || !slices.EqualFunc(words, want.words(), slices.Equal) {
		t.Error("what is handed in is changed")
	}
	for i := range l {
		l[i] = region("other", 40000, 7)
		for j := range words[i] {
			words[i][j] = 99
		}
		words[i] = nil
	}
	wantLike(t, "Of", m, want)
	wantLike(t, "New", noughts, newModel(several()))
	if x, e := m.Load(80); x != 7 || e != api.OK {
		t.Error("Load", x, e)
	}
	// Nor does what is stored come back.
	words = lists{{1, 2}}
	m, e = mem.Of(regions{region("a", 0, 2)}, words)
	if a, b := m.Store(0, 5), m.StoreByte(8, 9); e != api.OK || a != api.OK || b != api.OK || words[0][0] != 1 || words[0][1] != 2 {
		t.Error(e, a, b, words)
	}
}
