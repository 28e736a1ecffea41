package span

import (
	"math/rand"
	"regexp"
	"slices"
	"strconv"
	"strings"
	"testing"

	"baffle/api"
)

// P4.5: the text of a set is its spans with commas between them: one number, or two with a minus between them.
func TestText(t *testing.T) {
	for s, want := range map[string]Set{
		"": nil, "1-3,7": {{1, 3}, {7, 7}}, "0": {{0, 0}}, "0-1": {{0, 1}}, "4294967295": {{top, top}}, "4294967294-4294967295": {{top - 1, top}}, "0-4294967295": {{0, top}}, "0,4294967295": {{0, 0}, {top, top}}, "0-4294967293,4294967295": {{0, top - 2}, {top, top}}, "9-10,12,99-100,1000000": {{9, 10}, {12, 12}, {99, 100}, {1000000, 1000000}}, "1,3,5": {{1, 1}, {3, 3}, {5, 5}}, "2147483648": {{1 << 31, 1 << 31}}, "1-3,5-6": {{1, 3}, {5, 6}}, "2-10": {{2, 10}}, "9,11": {{9, 9}, {11, 11}},
	} {
		if got, e := Text(want); got != s || e != api.OK {
			t.Error(want, got, e)
		}
		if got, e := Read(s); !slices.Equal(got, want) || e != api.OK {
			t.Error(s, got, e)
		}
	}
	if got, e := Text(Set{}); got != "" || e != api.OK {
		t.Error(got, e)
	}
}

// P4.5: what is no text of a right set is ErrText, and there is no set.
func TestReadRefuses(t *testing.T) {
	for _, s := range []string{
		"3-1", "1-2,3", "7,1", "1-1", "01", "1,", ",", ",1", "1,,3", ",,", "1,3,", "-", "--", "1-", "-1", "1--3", "1-2-3", "-1-3", "1-3-", "1-,3", "1,-3", "-,-",
		"0-0", "4294967295-4294967295", "4294967295-0", "4294967295,0", "4294967294,4294967295", "0-4294967294,4294967295", "0-4294967295,0", "0-4294967295,1", "0-4294967295,4294967295", "1,2", "1,1", "1-3,1-3", "1-3,4", "1-3,3", "1-3,2", "1-5,2-3", "1-3,4-6", "1-3,0", "5-6,1-2", "1-3,9-8", "9-8,11",
		"4294967296", "0-4294967296", "1,4294967296", "4294967296-4294967297", "4294967297", "8589934592", "18446744073709551616", "18446744073709551617", "99999999999999999999999", "1-18446744073709551618",
		"00", "0-01", "00-1", "1-03", "1,03", "+1", "1-+3", "-0", "1,+3", "0x1", "0b1", "1_0", "1e3", "1.0", "1.", ".1", "a", "1-a", "a-1", "1;3", "1:3", "1..3", "*", "1 3",
		" ", " 1", "1 ", "1 -3", "1- 3", "1, 3", "1 ,3", "1\n", "\n", "\t1", "1\x00", "\x00", "\x001", "٣", "１", "\xff", "1,\xff", "1–3",
		strings.Repeat(",", 100000), strings.Repeat("-", 100000), strings.Repeat("9", 100000), strings.Repeat("0", 100000), strings.Repeat("0", 100000) + "1", "1-" + strings.Repeat("0", 100000) + "3", strings.Repeat("1,", 100000), strings.Repeat("1-3,", 100000) + "1", strings.Repeat("\x00", 100000),
	} {
		if got, e := Read(s); got != nil || e != ErrText {
			t.Errorf("%.40q: %v, %d", s, got, e)
		}
	}
	if ErrText != 40 || MaxSpans != 4096 {
		t.Error(ErrText, MaxSpans)
	}
}

// P4.5: a text may have as many spans as a set, and no more.
func TestReadMany(t *testing.T) {
	var single, double []string
	for i := range 3 * MaxSpans {
		single = append(single, strconv.Itoa(2*i+5))
		double = append(double, strconv.Itoa(3*i+5)+"-"+strconv.Itoa(3*i+6))
	}
	for n, want := range map[int]api.Errno{MaxSpans - 1: api.OK, MaxSpans: api.OK, MaxSpans + 1: ErrText, 2 * MaxSpans: ErrText, 3 * MaxSpans: ErrText} {
		for _, words := range [][]string{single, double} {
			s := strings.Join(words[:n], ",")
			got, e := Read(s)
			if e != want || (len(got) == n) != (want == api.OK) || want != api.OK && got != nil {
				t.Error(n, len(got), e)
			}
			if back, f := Text(got); want == api.OK && (back != s || f != api.OK) {
				t.Error(n, len(back), f)
			}
		}
	}
	touching := "0-4" // more spans than a set may have, though their numbers are one span
	for i := range MaxSpans {
		touching += "," + strconv.Itoa(i+5)
	}
	for _, s := range []string{touching, strings.Join(single[:MaxSpans], ",") + ",", strings.Join(single[:MaxSpans], ",") + ",x"} {
		if got, e := Read(s); got != nil || e != ErrText {
			t.Error(len(got), e)
		}
	}
}

// shape is that of the texts of spans, one at a time.
var shape = regexp.MustCompile(`\A(0|[1-9][0-9]{0,9})(?:-([1-9][0-9]{0,9}))?(,|\z)`)

// meant returns the right set of a text, word by word, and whether there is one.
func meant(s string) (Set, bool) {
	var set Set
	least := 0 // the least number with which the next span may begin
	for left, more := s, s != ""; more; {
		found := shape.FindStringSubmatch(left)
		if found == nil {
			return nil, false
		}
		from, _ := strconv.Atoi(found[1])
		to := from
		if found[2] != "" {
			if to, _ = strconv.Atoi(found[2]); to <= from {
				return nil, false
			}
		}
		if from < least || to > top {
			return nil, false
		}
		set, least = append(set, Span{uint32(from), uint32(to)}), to+2
		left, more = left[len(found[0]):], found[3] == ","
	}
	return set, true
}

// P4.5: texts next to that of a set are read only if they are ones themselves.
func TestReadSpoilt(t *testing.T) {
	for _, text := range []string{"", "0", "7", "1-3", "9-10", "1-3,7", "1,3", "5-7,9-11", "0,2-4,6", "10,12-20,23", "99-101,110", "4294967295", "0-4294967295", "4294967290-4294967293,4294967295", "429496729-4294967295"} {
		for i := range len(text) + 1 {
			texts := []string{text, text[:i], text[i:]}
			for _, x := range []string{"", "0", "1", "2", "5", "8", "9", ",", "-", "+", " ", "_", ".", "x", "\x00", "\xff", "\n", "٣"} {
				texts = append(texts, text[:i]+x+text[i:])
				if i < len(text) {
					texts = append(texts, text[:i]+x+text[i+1:])
				}
			}
			for _, s := range texts {
				want, ok := meant(s)
				if got, e := Read(s); !slices.Equal(got, want) || (e == api.OK) != ok || !ok && (e != ErrText || got != nil) {
					t.Errorf("%q: %v, %d; want %v, %v", s, got, e, want, ok)
				}
			}
		}
	}
}

// P4.5: of all short strings of the bytes of texts, those are read that are texts.
func TestReadShort(t *testing.T) {
	var try func(s string)
	try = func(s string) {
		want, ok := meant(s)
		if got, e := Read(s); !slices.Equal(got, want) || (e == api.OK) != ok || !ok && (e != ErrText || got != nil) {
			t.Errorf("%q: %v, %d; want %v, %v", s, got, e, want, ok)
		}
		if len(s) < 6 {
			for _, x := range "0135,-" {
				try(s + string(x))
			}
		}
	}
	try("")
}

// P4.6: what is written is read back, and different sets have different texts.
func TestReadBack(t *testing.T) {
	r := rand.New(rand.NewSource(45))
	seen := map[string]Set{}
	check := func(s Set) {
		text, e := Text(s)
		if back, f := Read(text); !slices.Equal(back, s) || e+f != api.OK {
			t.Fatal(s, text, back, e, f)
		}
		if other, ok := seen[text]; ok && !slices.Equal(other, s) {
			t.Fatal("one text of two sets:", text, s, other)
		}
		seen[text] = s
	}
	for bits := range 256 {
		for _, base := range bases {
			check(small(bits, base))
		}
	}
	for i := range 300 {
		s, _ := Of(random(r, 50, 0, top>>(i%30)))
		check(s)
	}
}
