package tests

import (
	"math"
	"reflect"
	"regexp"
	"slices"
	"strconv"
	"strings"
	"testing"

	"loop.example/g00722/impl"
)

const defaultText = "min=1\nmax=4\nwait=30\nlife=1000\nidle=100\nkeep=40\nleak=200\n" +
	"base=2\ncap=32\njitter=50\nwindow=60\ntrips=5\ncool=20\ndrain=50\n"

const maxConfigBytes = 1000

// fieldRange is what a field may be in roomyConfig.
type fieldRange struct {
	name  string
	least int
	most  int
}

// fieldRanges are in the order of the struct.
func fieldRanges() []fieldRange {
	return []fieldRange{
		{"min", 0, 12}, {"max", 1, 12}, {"wait", 1, top}, {"life", 0, top}, {"idle", 0, top}, {"keep", 0, top}, {"leak", 0, top},
		{"base", 1, 1000000}, {"cap", 1, 1000000}, {"jitter", 0, 100}, {"window", 1, 1000000}, {"trips", 1, 20}, {"cool", 1, 1000000}, {"drain", 1, top},
	}
}

// withField sets the field with the index k in the order of the struct.
func withField(c impl.Config, k int, value int) impl.Config {
	reflect.ValueOf(&c).Elem().Field(k).SetInt(int64(value))
	return c
}

func fieldOf(c impl.Config, k int) int { return int(reflect.ValueOf(c).Field(k).Int()) }

// roomyConfig lets the field with the index k have its whole range: where two
// fields limit each other, the other one gives way.
func roomyConfig(k int) impl.Config {
	c := impl.DefaultConfig()
	switch fieldRanges()[k].name {
	case "min":
		c.Max = 12
	case "max":
		c.Min = 0
	case "base":
		c.Cap = 1000000
	case "cap":
		c.Base = 1
	}
	return c
}

// textOf formats also what is not valid.
func textOf(c impl.Config) string {
	text := ""
	for k, f := range fieldRanges() {
		text += f.name + "=" + strconv.Itoa(fieldOf(c, k)) + "\n"
	}
	return text
}

func checkParse(t *testing.T, text string, c impl.Config, n int) {
	t.Helper()
	if got, code := impl.ParseConfig(text); got != c || code != n {
		t.Errorf("ParseConfig(%q) = %v, %d, want %v, %d", text, got, code, c, n)
	}
}

func checkFault(t *testing.T, text string, n int) {
	t.Helper()
	checkParse(t, text, impl.Config{}, n)
}

func TestDefaultConfig(t *testing.T) {
	want := impl.Config{Min: 1, Max: 4, Wait: 30, Life: 1000, Idle: 100, Keep: 40, Leak: 200,
		Base: 2, Cap: 32, Jitter: 50, Window: 60, Trips: 5, Cool: 20, Drain: 50}
	if got := impl.DefaultConfig(); got != want || !impl.ConfigOk(got) {
		t.Errorf("DefaultConfig() = %v, valid %v", got, impl.ConfigOk(got))
	}
	if text, ok := impl.ConfigText(impl.DefaultConfig()); !ok || text != defaultText {
		t.Errorf("its text: %q, %v", text, ok)
	}
	if impl.MaxConns != 12 {
		t.Errorf("MaxConns is %d", impl.MaxConns)
	}
}

func TestFieldNames(t *testing.T) {
	want := []string{"min", "max", "wait", "life", "idle", "keep", "leak", "base", "cap", "jitter", "window", "trips", "cool", "drain"}
	names := impl.FieldNames()
	if !slices.Equal(names, want) {
		t.Fatalf("FieldNames() = %v", names)
	}
	kind := reflect.TypeFor[impl.Config]()
	for k, name := range names {
		if strings.ToLower(kind.Field(k).Name) != name || fieldRanges()[k].name != name {
			t.Errorf("the field %d is %s, the name is %s", k, kind.Field(k).Name, name)
		}
	}
	for k := range names {
		names[k] = "changed"
	}
	if again := impl.FieldNames(); !slices.Equal(again, want) {
		t.Errorf("a change of a result changes the next one: %v", again)
	}
	if text, _ := impl.ConfigText(impl.DefaultConfig()); text != defaultText {
		t.Errorf("a change of the names changes the text: %q", text)
	}
	checkParse(t, "", impl.DefaultConfig(), 0)
}

// checkConfig checks every function for a configuration that is valid or not.
func checkConfig(t *testing.T, c impl.Config, valid bool) {
	t.Helper()
	if impl.ConfigOk(c) != valid {
		t.Errorf("ConfigOk(%v) is not %v", c, valid)
	}
	wantText, wantConfig, wantCode := textOf(c), c, 0
	if !valid {
		wantText, wantConfig, wantCode = "", impl.Config{}, -1
	}
	if text, ok := impl.ConfigText(c); text != wantText || ok != valid {
		t.Errorf("ConfigText(%v) = %q, %v", c, text, ok)
	}
	if got, ok := impl.Resized(c, c.Min, c.Max); got != c || ok != valid {
		t.Errorf("Resized(%v) to the same = %v, %v", c, got, ok)
	}
	if got, ok := impl.Resized(c, 1, 2); !valid && (got != c || ok) {
		t.Errorf("Resized of the invalid %v = %v, %v", c, got, ok)
	}
	// A number with more than ten digits has no form of a line.
	if !regexp.MustCompile(`[0-9]{11}`).MatchString(textOf(c)) {
		checkParse(t, textOf(c), wantConfig, wantCode)
		checkParse(t, strings.TrimSuffix(textOf(c), "\n"), wantConfig, wantCode)
	}
}

func TestRangesOfTheFields(t *testing.T) {
	for k, f := range fieldRanges() {
		room := roomyConfig(k)
		for _, x := range []int{f.least, f.least + 1, (f.least + f.most) / 2, f.most - 1, f.most} {
			checkConfig(t, withField(room, k, x), true)
		}
		for _, x := range []int{math.MinInt, math.MinInt + 1, -9999999999, -top, -1, f.least - 1,
			f.most + 1, top + 1, 2 * top, 9999999999, math.MaxInt - 1, math.MaxInt} {
			checkConfig(t, withField(room, k, x), false)
		}
	}
}

func TestFieldsThatLimitEachOther(t *testing.T) {
	for least := -1; least <= 14; least++ {
		for most := -1; most <= 14; most++ {
			c := impl.DefaultConfig()
			c.Min, c.Max = least, most
			checkConfig(t, c, least >= 0 && least <= most && most >= 1 && most <= 12)
		}
	}
	edges := []int{-1, 0, 1, 2, 999999, 1000000, 1000001}
	for _, base := range edges {
		for _, limit := range edges {
			c := impl.DefaultConfig()
			c.Base, c.Cap = base, limit
			checkConfig(t, c, base >= 1 && base <= limit && limit <= 1000000)
		}
	}
	// Other fields do not limit each other.
	for _, c := range []impl.Config{
		{Max: 1, Wait: 1, Base: 1, Cap: 1, Window: 1, Trips: 1, Cool: 1, Drain: 1},
		{Min: 12, Max: 12, Wait: top, Life: top, Idle: top, Keep: top, Leak: top, Base: 1000000, Cap: 1000000,
			Jitter: 100, Window: 1000000, Trips: 20, Cool: 1000000, Drain: top},
		{Min: 0, Max: 12, Wait: top, Life: 1, Idle: top, Keep: 1, Leak: 0, Base: 1, Cap: 1000000, Window: 1, Trips: 20, Cool: 1000000, Drain: 1},
	} {
		checkConfig(t, c, true)
	}
	checkConfig(t, impl.Config{}, false)
}

func TestParsingConfigsInvertsFormatting(t *testing.T) {
	draw := drawer(12345)
	for range 2000 {
		var c impl.Config
		for k, f := range fieldRanges() {
			span := []int{1, 2, 100, f.most - f.least + 1}[draw(4)]
			c = withField(c, k, f.least+draw(min(span, f.most-f.least+1)))
		}
		c.Min, c.Max = min(c.Min, c.Max), max(c.Min, c.Max)
		c.Base, c.Cap = min(c.Base, c.Cap), max(c.Base, c.Cap)
		text, ok := impl.ConfigText(c)
		if !ok || text != textOf(c) {
			t.Fatalf("ConfigText(%v) = %q, %v", c, text, ok)
		}
		checkParse(t, text, c, 0)
		// The order of the lines does not matter.
		lines := strings.Split(strings.TrimSuffix(text, "\n"), "\n")
		for k := range lines {
			j := draw(k + 1)
			lines[j], lines[k] = lines[k], lines[j]
		}
		checkParse(t, strings.Join(lines, "\n"), c, 0)
	}
}

func TestOmittedFieldsHaveTheirDefaults(t *testing.T) {
	other := impl.Config{Min: 3, Max: 7, Wait: 1, Life: 2, Idle: 0, Keep: 4, Leak: 5, Base: 6, Cap: 17, Jitter: 8, Window: 9, Trips: 10, Cool: 11, Drain: 12}
	for set := range 1 << 14 {
		c, text := impl.DefaultConfig(), ""
		for k, f := range fieldRanges() {
			if set>>k&1 == 1 {
				c = withField(c, k, fieldOf(other, k))
				text += f.name + "=" + strconv.Itoa(fieldOf(other, k)) + "\n"
			}
		}
		checkParse(t, text, c, 0)
	}
	checkParse(t, "max=2\nwait=5", impl.Config{Min: 1, Max: 2, Wait: 5, Life: 1000, Idle: 100, Keep: 40, Leak: 200,
		Base: 2, Cap: 32, Jitter: 50, Window: 60, Trips: 5, Cool: 20, Drain: 50}, 0)
}

func TestTextsWithoutFields(t *testing.T) {
	for _, text := range []string{"", "\n", "\n\n\n", "#", "#\n", "##", "# max=9", "#max=9\n#max=x\n\n", "#=\n\n#", "#\r", "#\x00\xff\n", "# é\n"} {
		checkParse(t, text, impl.DefaultConfig(), 0)
	}
}

func TestNewlineAtTheEnd(t *testing.T) {
	want := impl.DefaultConfig()
	want.Min, want.Max = 0, 2
	for _, text := range []string{"max=2\nmin=0", "max=2\nmin=0\n", "max=2\nmin=0\n\n", "\n\nmax=2\n\n\nmin=0", "#\nmax=2\n#max=3\nmin=0\n#", "max=2\n#\n#\xc3\nmin=0\n#\n"} {
		checkParse(t, text, want, 0)
	}
	for _, end := range []string{"", "\n", "\n\n", "\n#"} {
		checkFault(t, "max=2\nfoo"+end, 2)
		checkFault(t, "max=2\nmax=2"+end, 2)
		checkFault(t, "max=2\nmin=3"+end, -1)
	}
}

func TestFieldTwice(t *testing.T) {
	for k, f := range fieldRanges() {
		value := strconv.Itoa(fieldOf(impl.DefaultConfig(), k))
		line := f.name + "=" + value
		checkParse(t, line, impl.DefaultConfig(), 0)
		checkFault(t, line+"\n"+line, 2)
		checkFault(t, line+"\n"+line+"\n"+line, 2)
		checkFault(t, line+"\n\n# "+line+"\n"+f.name+"=7\n", 4)
		checkFault(t, f.name+"=7\n"+line, 2)
		checkFault(t, defaultText+line, 15)
		// A line that is ignored does not count as one of the field.
		checkParse(t, "#"+line+"\n"+line+"\n#"+line, impl.DefaultConfig(), 0)
		// A value that would make the configuration invalid counts as one.
		checkFault(t, f.name+"=-5\n"+line, 2)
	}
}

func TestValuesThatAreNoNumbers(t *testing.T) {
	values := []string{
		"", " ", "x", "1x", "x1", "1 ", " 1", "1 2", "\t1", "1\r", "1\x00", "1#", "1;", "1,", "1.0", "1.", ".1", "1e1", "0x1", "0b1", "0o1", "1_0",
		"1=1", "=1", "=", "'1'", "\"1\"", "+1", "+", "-", "--1", "+-1", "-+1", "1-", "- 1", "-x", "+0", "-0", "00", "01", "007", "-00", "-01", "−1",
		"١", "１", "\xff", "1\xff", "1\xc3", "true", "nil", "Inf", "NaN", "one", "min",
		"12345678901", "-12345678901", "10000000000", "-10000000000", "99999999999", "00000000001", "0000000001", "01000000000",
		"9223372036854775807", "-9223372036854775808", "9223372036854775808", "18446744073709551617", strings.Repeat("1", 40), strings.Repeat("0", 40) + "1",
	}
	for _, f := range fieldRanges() {
		for _, v := range values {
			checkFault(t, f.name+"="+v, 1)
		}
	}
	for _, v := range values {
		checkFault(t, "\n# x\nwait=3\n\nmax="+v+"\nfoo\n", 5)
	}
}

func TestValuesOfTenDigits(t *testing.T) {
	for k, f := range fieldRanges() {
		want, code := withField(impl.DefaultConfig(), k, top), 0
		if f.most < top {
			want, code = impl.Config{}, -1
		}
		checkParse(t, f.name+"=1000000000", want, code)
		for _, v := range []string{"1000000001", "9999999999", "-1", "-7", "-10", "-999999999", "-1000000000", "-9999999999"} {
			checkFault(t, f.name+"="+v, -1)
		}
	}
	for k, f := range fieldRanges() {
		if f.least == 0 {
			checkParse(t, f.name+"=0", withField(impl.DefaultConfig(), k, 0), 0)
		} else {
			checkFault(t, f.name+"=0", -1)
		}
	}
}

// linesWithoutForm have none of the named forms.
func linesWithoutForm() []string {
	return []string{
		"foo", "foo=1", "=", "=1", "==", "min", "min=", "min1", "min 1", "min:1", "min=1=1", "min==1", " min=1", "min=1 ", "min =1", "min= 1", "\tmin=1",
		"MIN=1", "Min=1", "mIn=1", "mi=1", "minn=1", "min.=1", "minmax=1", "min,max=1", "min=1,max=4", "min=1;", "min=1#", "min=1 # one", " ", "  ", "\t",
		"\r", "min=1\r", "\r#", " #", "\x00", "\x00#", "\xff", "\xc3", "mi\xffn=1", "é", "ｍin=1", "1=min", "1", "0", "-1", "conns=1", "maxconns=4", "//", ";", "-",
		"config=1", "life", "\ufeffmin=1", "\ufeff", "min=1\u2028", "min=1\x0b", "\"min\"=1",
	}
}

func TestLinesWithoutForm(t *testing.T) {
	for _, line := range linesWithoutForm() {
		for _, end := range []string{"", "\n", "\nfoo\n", "\nmax=0"} {
			checkFault(t, line+end, 1)
			checkFault(t, "\n"+line+end, 2)
			checkFault(t, "#\n"+line+end, 2)
			checkFault(t, "\n\n# x\n#\n\n"+line+end, 6)
			checkFault(t, "wait=3\n\n#\nlife=4\n"+line+end, 5)
			// The line decides although the configuration would be invalid too.
			checkFault(t, "trips=0\n"+line+end, 2)
		}
	}
}

func TestFirstFaultDecides(t *testing.T) {
	checkFault(t, "foo\nmax=2\nmax=2", 1)
	checkFault(t, "max=2\nmax=2\nfoo", 2)
	checkFault(t, "max=0\nmin=7\nmax=2", 3)
	checkFault(t, "max=x\nmax=2\nmax=2", 1)
	checkFault(t, "max=2\nmax=x\n", 2)
	checkFault(t, "max=2\nMAX=2\nmax=2", 2)
	checkFault(t, "max=0\n#\n", -1)
}

func TestInvalidConfigurationsInText(t *testing.T) {
	for _, text := range []string{
		"max=0", "max=13", "min=5", "min=-1", "min=2\nmax=1", "max=1\nmin=2\n", "max=-1\nmin=-1", "wait=0", "wait=1000000001", "life=-1", "life=1000000001",
		"idle=-1", "idle=1000000001", "keep=-1", "keep=1000000001", "leak=-1", "leak=1000000001", "base=0", "base=33", "cap=1", "cap=0", "cap=1000001",
		"base=9\ncap=8", "base=1000001\ncap=1000001", "jitter=-1", "jitter=101", "window=0", "window=1000001", "trips=0", "trips=21", "cool=0",
		"cool=1000001", "drain=0", "drain=1000000001", "# x\n\nmax=0\n\n# y", "min=0\nmax=0", "wait=9\nmax=13\nlife=3",
	} {
		checkFault(t, text, -1)
	}
	// What is valid only together, whichever line comes first.
	for _, text := range []string{"min=9\nmax=10", "max=10\nmin=9", "base=40\ncap=50", "cap=50\nbase=40", "cap=1\nbase=1", "max=1\nmin=0", "min=12\nmax=12"} {
		if c, n := impl.ParseConfig(text); n != 0 || !impl.ConfigOk(c) {
			t.Errorf("ParseConfig(%q) = %v, %d", text, c, n)
		}
	}
}

func TestLengthOfTheText(t *testing.T) {
	want := impl.DefaultConfig()
	want.Max = 9
	comment := func(n int) string { return "#" + strings.Repeat("x", n-1) }
	checkParse(t, "max=9\n"+comment(maxConfigBytes-6), want, 0)
	checkParse(t, "max=9\n"+comment(maxConfigBytes-7)+"\n", want, 0)
	checkParse(t, comment(maxConfigBytes-6)+"\nmax=9", want, 0)
	checkParse(t, "max=9"+strings.Repeat("\n", maxConfigBytes-5), want, 0)
	checkParse(t, strings.Repeat("\n", maxConfigBytes), impl.DefaultConfig(), 0)
	checkParse(t, strings.Repeat("#\n", maxConfigBytes/2), impl.DefaultConfig(), 0)
	checkFault(t, "foo\n"+comment(maxConfigBytes-4), 1)
	checkFault(t, "max=0\n"+comment(maxConfigBytes-6), -1)
	checkFault(t, strings.Repeat("\n", maxConfigBytes-1)+"x", maxConfigBytes)
	checkFault(t, strings.Repeat("#\n", maxConfigBytes/2-3)+"max=99", -1)
	checkFault(t, strings.Repeat("9", maxConfigBytes), 1)
	for _, text := range []string{
		"max=9\n" + comment(maxConfigBytes-5), "max=9\n" + comment(maxConfigBytes-6) + "\n", "foo\n" + comment(maxConfigBytes-3),
		comment(maxConfigBytes-5) + "\nmax=9", strings.Repeat("\n", maxConfigBytes+1), strings.Repeat("\n", maxConfigBytes) + "x",
		comment(maxConfigBytes + 1), strings.Repeat("foo\n", 5000), defaultText + strings.Repeat("\n", maxConfigBytes),
	} {
		checkFault(t, text, -1)
	}
	// The length is one of bytes, not of runes.
	checkParse(t, "#"+strings.Repeat("é", 499)+"\n", impl.DefaultConfig(), 0)
	checkFault(t, "#"+strings.Repeat("é", 500), -1)
	checkFault(t, "foo\n#"+strings.Repeat("€", 332), -1)
}

// modelOfParse follows the chapter line by line.
func modelOfParse(text string) (impl.Config, int) {
	if len(text) > maxConfigBytes {
		return impl.Config{}, -1
	}
	lines := strings.Split(text, "\n")
	if last := len(lines) - 1; lines[last] == "" {
		lines = lines[:last]
	}
	form := regexp.MustCompile(`\A([a-z]+)=(0|-?[1-9][0-9]{0,9})\z`)
	c, seen := impl.DefaultConfig(), map[int]bool{}
	for j, line := range lines {
		if line == "" || line[0] == '#' {
			continue
		}
		parts := form.FindStringSubmatch(line)
		if parts == nil {
			return impl.Config{}, j + 1
		}
		k := slices.IndexFunc(fieldRanges(), func(f fieldRange) bool { return f.name == parts[1] })
		if k < 0 || seen[k] {
			return impl.Config{}, j + 1
		}
		seen[k] = true
		x, _ := strconv.Atoi(parts[2])
		c = withField(c, k, x)
	}
	for k, f := range fieldRanges() {
		if x := fieldOf(c, k); x < f.least || x > f.most {
			return impl.Config{}, -1
		}
	}
	if c.Min > c.Max || c.Base > c.Cap {
		return impl.Config{}, -1
	}
	return c, 0
}

func TestParseConfigOfMixedTexts(t *testing.T) {
	draw := drawer(99)
	values := []string{"0", "1", "2", "3", "5", "12", "20", "100", "32", "1000000", "1000000000", "-1", "9999999999", "01", "10000000000", "-0", "x"}
	codes := map[int]int{}
	for range 20000 {
		text := ""
		for range draw(9) {
			switch draw(12) {
			case 0:
				text += "\n"
			case 1:
				text += "# " + values[draw(len(values))] + "\n"
			case 2:
				if draw(4) == 0 {
					text += linesWithoutForm()[draw(len(linesWithoutForm()))] + "\n"
				}
			default:
				value := values[draw(5+draw(len(values)-4))]
				text += fieldRanges()[draw(14)].name + "=" + value + "\n"
			}
		}
		if draw(3) == 0 {
			text = strings.TrimSuffix(text, "\n")
		}
		c, n := modelOfParse(text)
		checkParse(t, text, c, n)
		codes[n]++
	}
	for n := -1; n <= 8; n++ {
		if codes[n] < 20 {
			t.Errorf("only %d texts have the result %d", codes[n], n)
		}
	}
}

func TestResized(t *testing.T) {
	c := impl.Config{Min: 2, Max: 3, Wait: 5, Life: 6, Idle: 7, Keep: 8, Leak: 9, Base: 10, Cap: 11, Jitter: 12, Window: 13, Trips: 14, Cool: 15, Drain: 16}
	sizes := []int{math.MinInt, math.MinInt + 1, -top, -12, math.MaxInt - 1, math.MaxInt, top, 1000}
	for x := -2; x <= 14; x++ {
		sizes = append(sizes, x)
	}
	for _, least := range sizes {
		for _, most := range sizes {
			want, ok := c, least >= 0 && least <= most && most >= 1 && most <= 12
			if ok {
				want.Min, want.Max = least, most
			}
			if got, done := impl.Resized(c, least, most); got != want || done != ok {
				t.Errorf("Resized to %d and %d = %v, %v, want %v, %v", least, most, got, done, want, ok)
			}
		}
	}
	if (c != impl.Config{Min: 2, Max: 3, Wait: 5, Life: 6, Idle: 7, Keep: 8, Leak: 9, Base: 10, Cap: 11, Jitter: 12, Window: 13, Trips: 14, Cool: 15, Drain: 16}) {
		t.Errorf("the argument changed: %v", c)
	}
}

// brokenConfigs are invalid by a single field each, by two fields that do not
// fit together, or altogether.
func brokenConfigs() []impl.Config {
	var broken []impl.Config
	for k, f := range fieldRanges() {
		broken = append(broken, withField(roomyConfig(k), k, f.least-1), withField(roomyConfig(k), k, f.most+1))
	}
	d := impl.DefaultConfig()
	tall, steep := d, d
	tall.Min, tall.Max = 5, 4
	steep.Base, steep.Cap = 33, 32
	return append(broken, tall, steep, impl.Config{})
}

func TestResizedInvalidConfigs(t *testing.T) {
	for _, c := range brokenConfigs() {
		// Sizes that are valid by themselves do not make c valid.
		for _, size := range [][2]int{{1, 4}, {0, 1}, {12, 12}, {5, 4}, {0, 13}, {c.Min, c.Max}} {
			if got, ok := impl.Resized(c, size[0], size[1]); ok || got != c {
				t.Errorf("Resized(%v, %v) = %v, %v", c, size, got, ok)
			}
		}
	}
}
