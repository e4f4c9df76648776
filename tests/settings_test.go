package tests

import (
	"fmt"
	"slices"
	"strconv"
	"strings"
	"testing"

	"loop.example/trafficguard/impl"
)

// exampleText is the text of settingsMade, as the document has it.
const exampleText = "rate=50 burst=250 peer-rate=10 peer-burst=100 memory=200 each=120 quantum=100 weights=2,1,1,1"

// fieldNames returns the names of the fields, in order.
func fieldNames() []string {
	return []string{"rate", "burst", "peer-rate", "peer-burst", "memory", "each", "quantum", "weights"}
}

// textOfSettings joins the parts by hand, whether the settings are valid or not.
func textOfSettings(s impl.Settings) string {
	weights := strings.Trim(strings.ReplaceAll(fmt.Sprint(s.Weights), " ", ","), "[]")
	return fmt.Sprintf("rate=%d burst=%d peer-rate=%d peer-burst=%d memory=%d each=%d quantum=%d weights=%s",
		s.Rate, s.Burst, s.PeerRate, s.PeerBurst, s.Memory, s.Each, s.Quantum, weights)
}

// validByHand writes the limits as numbers.
func validByHand(s impl.Settings) bool {
	in := func(n int, low int, high int) bool { return n >= low && n <= high }
	if len(s.Weights) != 4 || slices.Min(s.Weights) < 1 || slices.Max(s.Weights) > 9 {
		return false
	}
	return in(s.Rate, 0, 1000) && in(s.Burst, 1, 10000) && in(s.PeerRate, 0, 1000) && in(s.PeerBurst, 1, 10000) &&
		in(s.Memory, 1, 5000) && in(s.Each, 1, s.Memory) && in(s.Quantum, 1, 500)
}

// readByHand scans a text, and accepts what is written in the same way.
func readByHand(text string) (impl.Settings, bool) {
	s := impl.Settings{Weights: make([]int, 4)}
	w := s.Weights
	_, err := fmt.Sscanf(text, "rate=%d burst=%d peer-rate=%d peer-burst=%d memory=%d each=%d quantum=%d weights=%d,%d,%d,%d",
		&s.Rate, &s.Burst, &s.PeerRate, &s.PeerBurst, &s.Memory, &s.Each, &s.Quantum, &w[0], &w[1], &w[2], &w[3])
	if err != nil || !validByHand(s) || textOfSettings(s) != text {
		return impl.Settings{}, false
	}
	return s, true
}

// sameSettings compares by hand, so that it does not depend on the program.
func sameSettings(a impl.Settings, b impl.Settings) bool {
	return a.Rate == b.Rate && a.Burst == b.Burst && a.PeerRate == b.PeerRate && a.PeerBurst == b.PeerBurst &&
		a.Memory == b.Memory && a.Each == b.Each && a.Quantum == b.Quantum && slices.Equal(a.Weights, b.Weights)
}

func isZeroSettings(s impl.Settings) bool {
	return sameSettings(s, impl.Settings{})
}

// copiedSettings returns settings with memory of their own.
func copiedSettings(s impl.Settings) impl.Settings {
	s.Weights = slices.Clone(s.Weights)
	return s
}

// setField sets the field at a place in the order of the names, where each is one of the weights behind the seven others.
func setField(s *impl.Settings, place int, n int) {
	fields := []*int{&s.Rate, &s.Burst, &s.PeerRate, &s.PeerBurst, &s.Memory, &s.Each, &s.Quantum}
	if place < len(fields) {
		*fields[place] = n
		return
	}
	s.Weights[place-len(fields)] = n
}

// mixedSettings returns valid settings from a row of numbers.
func mixedSettings(seed int) impl.Settings {
	row := numberRow(seed, 11, 30000)
	memory := 1 + row[4]%5000
	return impl.Settings{
		Rate: row[0] % 1001, Burst: 1 + row[1]%10000, PeerRate: row[2] % 1001, PeerBurst: 1 + row[3]%10000,
		Memory: memory, Each: 1 + row[5]%memory, Quantum: 1 + row[6]%500,
		Weights: []int{1 + row[7]%9, 1 + row[8]%9, 1 + row[9]%9, 1 + row[10]%9},
	}
}

// extremeSettings returns the settings with the least numbers, and those with the greatest.
func extremeSettings() []impl.Settings {
	least := impl.Settings{Burst: 1, PeerBurst: 1, Memory: 1, Each: 1, Quantum: 1, Weights: []int{1, 1, 1, 1}}
	most := impl.Settings{Rate: 1000, Burst: 10000, PeerRate: 1000, PeerBurst: 10000, Memory: 5000, Each: 5000, Quantum: 500, Weights: []int{9, 9, 9, 9}}
	return []impl.Settings{least, most}
}

func validSettings() []impl.Settings {
	list := append(limitSettings(), extremeSettings()...)
	for seed := range 200 {
		list = append(list, mixedSettings(seed))
	}
	return list
}

// checkText expects that settings have the text made by hand, and are read back from it.
func checkText(t *testing.T, s impl.Settings) {
	t.Helper()
	text := textOfSettings(s)
	if got := impl.FormatSettings(s); got != text {
		t.Errorf("FormatSettings(%v) = %q, want %q", s, got, text)
	}
	if got, ok := impl.ParseSettings(text); !ok || !sameSettings(got, s) {
		t.Errorf("ParseSettings(%q) = %v, %v", text, got, ok)
	}
}

func checkNoSettings(t *testing.T, text string) {
	t.Helper()
	if got, ok := impl.ParseSettings(text); ok || !isZeroSettings(got) {
		t.Errorf("ParseSettings(%q) = %v, %v", text, got, ok)
	}
}

// checkReadAlike expects that a text is read as it is read by hand.
func checkReadAlike(t *testing.T, text string) {
	t.Helper()
	want, is := readByHand(text)
	if got, ok := impl.ParseSettings(text); ok != is || !sameSettings(got, want) {
		t.Errorf("ParseSettings(%q) = %v, %v, want %v, %v", text, got, ok, want, is)
	}
}

func TestExampleOfSettings(t *testing.T) {
	if got := impl.FormatSettings(settingsMade()); got != exampleText {
		t.Errorf("FormatSettings = %q", got)
	}
	if got, ok := impl.ParseSettings(exampleText); !ok || !sameSettings(got, settingsMade()) {
		t.Errorf("ParseSettings = %v, %v", got, ok)
	}
}

func TestSettingsAreReadBack(t *testing.T) {
	for _, s := range validSettings() {
		checkText(t, s)
	}
}

// TestEveryNumberOfEachSettingIsReadBack has each field by itself, from its least to its greatest number.
func TestEveryNumberOfEachSettingIsReadBack(t *testing.T) {
	lowest := []int{0, 1, 0, 1, 120, 1, 1, 1, 1, 1, 1}
	highest := []int{1000, 10000, 1000, 10000, 5000, 200, 500, 9, 9, 9, 9}
	for place, low := range lowest {
		s := settingsMade()
		for n := low; n <= highest[place]; n++ {
			setField(&s, place, n)
			checkText(t, s)
		}
		for _, n := range []int{low - 1, highest[place] + 1, -1, leastInt, mostInt} {
			setField(&s, place, n)
			checkNoText(t, s)
		}
	}
	for n := 1; n <= 5000; n++ {
		checkText(t, withMemory(n, n))
		checkNoText(t, withMemory(n, n+1))
	}
}

func checkNoText(t *testing.T, s impl.Settings) {
	t.Helper()
	if got := impl.FormatSettings(s); got != "" {
		t.Errorf("FormatSettings(%v) = %q", s, got)
	}
	checkNoSettings(t, textOfSettings(s))
}

func TestAllWeightsAreReadBack(t *testing.T) {
	for n := range 9 * 9 * 9 * 9 {
		s := settingsMade()
		s.Weights = []int{1 + n/729, 1 + n/81%9, 1 + n/9%9, 1 + n%9}
		checkText(t, s)
	}
}

func TestInvalidSettingsHaveNoText(t *testing.T) {
	for _, s := range invalidSettings() {
		checkNoText(t, s)
	}
	for _, weights := range [][]int{nil, {}, {1}, {2, 1, 1}, {2, 1, 1, 1, 1}, {2, 1, 1, 1, 0}, {0, 2, 1, 1}, {2, 1, 1, 10}, {21, 1, 1}, {2, 1, 1, -1}} {
		s := settingsMade()
		s.Weights = weights
		checkNoText(t, s)
	}
	for place := range 11 {
		for other := range place {
			s := settingsMade()
			setField(&s, place, -1)
			setField(&s, other, -1)
			checkNoText(t, s)
		}
	}
}

// replacedFields returns texts in which each field of the example is another one.
func replacedFields(how func(name string, number string) []string) []string {
	var list []string
	fields := strings.Split(exampleText, " ")
	for i, field := range fields {
		name, number, _ := strings.Cut(field, "=")
		for _, other := range how(name, number) {
			list = append(list, strings.Join(slices.Concat(fields[:i], []string{other}, fields[i+1:]), " "))
		}
	}
	return list
}

func TestFieldsThatAreNoSettings(t *testing.T) {
	texts := replacedFields(func(name string, number string) []string {
		first := name + "=" + number
		return []string{
			"", name, name + "=", "=" + number, number, "=", name + number, name + ":" + number, name + "==" + number, name + "=" + number + "=",
			name + " =" + number, name + "= " + number, name + "=" + number + " ", " " + first, "\t" + first, first + "\n", first + "\r", first + "\x00", first + "\v",
			strings.ToUpper(name) + "=" + number, strings.ToUpper(name[:1]) + name[1:] + "=" + number, name[1:] + "=" + number, name[:len(name)-1] + "=" + number,
			"x" + first, name + "x=" + number, "-" + first, name + "-=" + number, name + "s=" + number, name + "0=" + number, "1" + first, "peer-" + first,
			name + "=0" + number, name + "=00" + number, name + "=+" + number, name + "=-" + number, name + "=--" + number, name + "=0x" + number, name + "=x", name + "=" + number + "x",
			name + "=" + number + ".0", name + "=" + number + "e0", name + "=" + number[:1] + "_" + number[1:], name + "=" + number + ",", name + "=," + number, name + "=" + number + ",1",
			name + "=\"" + number + "\"", name + "='" + number + "'", name + "=(" + number + ")", first + ";", first + ",", first + "/", first + "#1",
			name + "=" + number[:1] + " " + number[1:], name + "=\u0662" + number[1:], name + "=" + number + "\u00a0", name + "=" + number + "\xff", "\xef\xbb\xbf" + first,
			name + "=" + strings.Repeat("9", 1000), name + "=" + strings.Repeat("0", 1000) + number, name + "=" + strings.Repeat("9", 17), name + "=" + strings.Repeat("9", 18), name + "=-0",
			first + " " + first, first + " x", "x " + first, first + " " + name, first + " 1", first + " x=1", "x=1 " + first,
		}
	})
	for _, text := range texts {
		if text == exampleText {
			t.Fatal("a text is that of the example")
		}
		checkNoSettings(t, text)
		checkReadAlike(t, text)
	}
}

// TestNumbersThatAreTooLarge has numbers that become the right ones where they overflow.
func TestNumbersThatAreTooLarge(t *testing.T) {
	texts := replacedFields(func(name string, number string) []string {
		first, rest, _ := strings.Cut(number+",", ",")
		n, err := strconv.Atoi(first)
		if err != nil {
			t.Fatal(err)
		}
		rest = strings.TrimSuffix(","+rest, ",")
		var list []string
		for _, other := range []string{
			fmt.Sprint(4294967296 + n), fmt.Sprint(n - 4294967296), fmt.Sprint(65536 + n), fmt.Sprint(256 + n),
			fmt.Sprint("18446744073709", 551616+n), fmt.Sprint("-18446744073709", 551616-n), fmt.Sprint("55340232221128", 654848+n),
		} {
			list = append(list, name+"="+other+rest)
		}
		return list
	})
	for _, text := range texts {
		checkReadAlike(t, text)
	}
	if len(texts) != 56 || !strings.HasSuffix(texts[55], "quantum=100 weights=55340232221128654850,1,1,1") {
		t.Errorf("the last one of %d texts is %q", len(texts), texts[55])
	}
}

func TestTextsThatAreNoSettings(t *testing.T) {
	texts := []string{
		"", " ", "=", ",", "\n", "\x00", "rate=50", "weights=2,1,1,1", "50 250 10 100 200 120 100 2,1,1,1", "50 250 10 100 200 120 100 2 1 1 1", "50,250,10,100,200,120,100,2,1,1,1",
		exampleText + " ", " " + exampleText, exampleText + "\n", "\n" + exampleText, exampleText + exampleText, exampleText + " " + exampleText, exampleText + "\n" + exampleText,
		"new " + exampleText, "{" + exampleText + "}", "\"" + exampleText + "\"", strings.ToUpper(exampleText), strings.ToTitle(exampleText),
		strings.ReplaceAll(exampleText, " ", ""), strings.ReplaceAll(exampleText, " ", "  "), strings.ReplaceAll(exampleText, " ", "\t"), strings.ReplaceAll(exampleText, " ", "\n"),
		strings.ReplaceAll(exampleText, " ", ","), strings.ReplaceAll(exampleText, " ", ";"), strings.ReplaceAll(exampleText, " ", ", "), strings.ReplaceAll(exampleText, " ", "\u00a0"),
		strings.ReplaceAll(exampleText, "=", " "), strings.ReplaceAll(exampleText, "=", ":"), strings.ReplaceAll(exampleText, "=", " = "), strings.ReplaceAll(exampleText, "=", ""),
		strings.ReplaceAll(exampleText, "-", "_"), strings.ReplaceAll(exampleText, "-", ""), strings.ReplaceAll(exampleText, "-", " "), strings.ReplaceAll(exampleText, "-", "\u2010"),
		strings.ReplaceAll(exampleText, ",", " "), strings.ReplaceAll(exampleText, ",", ""), strings.ReplaceAll(exampleText, ",", ", "), strings.ReplaceAll(exampleText, ",", ";"), strings.ReplaceAll(exampleText, ",", ",,"),
		strings.ReplaceAll(exampleText, "peer-", ""), strings.ReplaceAll(exampleText, "=", "=0"), strings.ReplaceAll(exampleText, "=", "=+"), strings.ReplaceAll(exampleText, "=", "=-"),
		strings.Repeat(" ", 100000), strings.Repeat("1 ", 100000), strings.Repeat("1", 100000), strings.Repeat(exampleText+" ", 1000), exampleText + strings.Repeat(",1", 100000), exampleText + strings.Repeat(" ", 100000),
	}
	for _, text := range texts {
		checkNoSettings(t, text)
		checkReadAlike(t, text)
	}
}

// TestWeightsThatAreNoSettings has other numbers of weights, and other signs between them.
func TestWeightsThatAreNoSettings(t *testing.T) {
	start := strings.TrimSuffix(exampleText, "2,1,1,1")
	for _, weights := range []string{
		"", "2", "2,1", "2,1,1", "2,1,1,", "2,1,1,1,", ",2,1,1,1", "2,1,1,1,1", "2,,1,1,1", "2,1,,1", "2,1,1,,1", ",,,", "2,1,1,0", "0,1,1,1", "2,1,1,10", "10,1,1,1", "2,1,1,01", "02,1,1,1",
		"2,1,1,-1", "-2,1,1,1", "2, 1,1,1", "2 ,1,1,1", "2,1,1 1", "2,1,1,1 ", "2 1 1 1", "2,1,1.1", "2,1,11", "2111", "21,1,1", "2;1;1;1", "2,1,1,x", "x,1,1,1", "2,1,1,1x", "[2,1,1,1]", "2,1,1,+1",
		"2,1,1,1 weights=2,1,1,1", "2,1,1,1,weights=2,1,1,1", "2 weights=1 weights=1 weights=1", "2,1,1,1\n2,1,1,1", "2,1,1,18446744073709551617",
	} {
		checkNoSettings(t, start+weights)
		checkReadAlike(t, start+weights)
	}
}

// permuted calls do with all orders of a list.
func permuted(list []string, done int, do func(list []string)) {
	if done == len(list) {
		do(list)
	}
	for i := done; i < len(list); i++ {
		list[done], list[i] = list[i], list[done]
		permuted(list, done+1, do)
		list[done], list[i] = list[i], list[done]
	}
}

// TestFieldsInAnotherOrder has all orders of the fields, of the names alone, and of the numbers alone.
func TestFieldsInAnotherOrder(t *testing.T) {
	same := impl.Settings{Rate: 1, Burst: 1, PeerRate: 1, PeerBurst: 1, Memory: 1, Each: 1, Quantum: 1, Weights: []int{1, 1, 1, 1}}
	for _, s := range []impl.Settings{settingsMade(), same} {
		base := textOfSettings(s)
		permuted(strings.Split(base, " "), 0, func(list []string) {
			text := strings.Join(list, " ")
			if got, ok := impl.ParseSettings(text); ok != (text == base) || ok != sameSettings(got, s) || !ok && !isZeroSettings(got) {
				t.Errorf("ParseSettings(%q) = %v, %v", text, got, ok)
			}
		})
	}
	names := fieldNames()
	permuted(names, 0, func(list []string) {
		if text := withNames(settingsMade(), list); text != exampleText {
			checkNoSettings(t, text)
		}
	})
	permuted([]string{"50", "250", "10", "100", "200", "120", "100"}, 0, func(list []string) {
		text := ""
		for i, number := range list {
			text += names[i] + "=" + number + " "
		}
		checkReadAlike(t, text+"weights=2,1,1,1")
	})
}

// withNames returns the text of settings with other names.
func withNames(s impl.Settings, names []string) string {
	var fields []string
	for i, field := range strings.Split(textOfSettings(s), " ") {
		_, number, _ := strings.Cut(field, "=")
		fields = append(fields, names[i]+"="+number)
	}
	return strings.Join(fields, " ")
}

// TestFieldsThatAreMissing has all choices of fields, and those with one field twice.
func TestFieldsThatAreMissing(t *testing.T) {
	fields := strings.Split(exampleText, " ")
	for chosen := range 255 {
		var list []string
		for i, field := range fields {
			if chosen>>i%2 == 1 {
				list = append(list, field)
			}
		}
		checkNoSettings(t, strings.Join(list, " "))
	}
	for i := range fields {
		for j, field := range fields {
			checkNoSettings(t, strings.Join(slices.Insert(slices.Clone(fields), i, field), " "))
			if i != j {
				other := slices.Clone(fields)
				other[i] = field
				checkNoSettings(t, strings.Join(other, " "))
			}
		}
	}
}

// TestChangedTextsOfSettings changes one byte of a text in every way.
func TestChangedTextsOfSettings(t *testing.T) {
	for _, s := range append(extremeSettings(), settingsMade()) {
		base := textOfSettings(s)
		for i := range len(base) + 1 {
			for c := range 256 {
				checkReadAlike(t, base[:i]+string([]byte{byte(c)})+base[i:])
				if i < len(base) {
					checkReadAlike(t, base[:i]+string([]byte{byte(c)})+base[i+1:])
				}
			}
		}
	}
}

// TestCutTextsOfSettings takes parts out of a text, doubles them, and exchanges neighbours.
func TestCutTextsOfSettings(t *testing.T) {
	for i := range len(exampleText) + 1 {
		for j := i; j <= len(exampleText); j++ {
			checkReadAlike(t, exampleText[:i]+exampleText[j:])
			checkReadAlike(t, exampleText[:j]+exampleText[i:])
			checkReadAlike(t, exampleText[i:j])
		}
		if i > 1 {
			checkReadAlike(t, exampleText[:i-2]+exampleText[i-1:i]+exampleText[i-2:i-1]+exampleText[i:])
		}
	}
}

// namesByHand compares the fields one by one.
func namesByHand(a impl.Settings, b impl.Settings) []string {
	differ := []bool{
		a.Rate != b.Rate, a.Burst != b.Burst, a.PeerRate != b.PeerRate, a.PeerBurst != b.PeerBurst,
		a.Memory != b.Memory, a.Each != b.Each, a.Quantum != b.Quantum, !slices.Equal(a.Weights, b.Weights),
	}
	var names []string
	for i, name := range fieldNames() {
		if differ[i] {
			names = append(names, name)
		}
	}
	return names
}

// checkNames compares both ways.
func checkNames(t *testing.T, a impl.Settings, b impl.Settings, want []string) {
	t.Helper()
	for _, pair := range [][2]impl.Settings{{a, b}, {b, a}} {
		if got := impl.ChangedNames(pair[0], pair[1]); !slices.Equal(got, want) {
			t.Errorf("ChangedNames(%v, %v) = %q, want %q", pair[0], pair[1], got, want)
		}
		if got := impl.SettingsSame(pair[0], pair[1]); got != (len(want) == 0) {
			t.Errorf("SettingsSame(%v, %v) = %v", pair[0], pair[1], got)
		}
	}
}

// TestNamesOfAllChoicesOfFields changes all choices of fields, to valid and to other numbers.
func TestNamesOfAllChoicesOfFields(t *testing.T) {
	for _, n := range []int{1, 7, 0, -1, 10001, leastInt, mostInt} {
		for chosen := range 256 {
			s := settingsMade()
			var want []string
			for i, name := range fieldNames() {
				if chosen>>i%2 == 1 {
					setField(&s, i, n)
					want = append(want, name)
				}
			}
			checkNames(t, settingsMade(), s, want)
		}
	}
}

func TestNamesOfWeights(t *testing.T) {
	rows := [][]int{
		nil, {2, 1, 1, 1}, {2}, {2, 1}, {2, 1, 1}, {2, 1, 1, 1, 1}, {2, 1, 1, 1, 0}, {0, 2, 1, 1, 1}, {1, 2, 1, 1}, {1, 1, 2, 1}, {1, 1, 1, 2}, {3, 1, 1, 1}, {2, 2, 1, 1}, {2, 1, 2, 1}, {2, 1, 1, 2},
		{0}, {0, 0}, {21, 1, 1}, {2, 11, 1}, {2, 1, 11}, {2111}, {-2, 1, 1, 1}, {2, 1, 1, -1}, {leastInt, mostInt}, {mostInt, leastInt}, slices.Repeat([]int{1}, 1000), slices.Repeat([]int{1}, 1001),
	}
	for i, row := range rows {
		for j, other := range rows {
			a, b := settingsMade(), settingsMade()
			a.Weights, b.Weights = row, slices.Clone(other)
			var want []string
			if i != j {
				want = []string{"weights"}
			}
			checkNames(t, a, b, want)
		}
	}
	checkNames(t, impl.Settings{}, impl.Settings{Weights: []int{}}, nil)
	checkNames(t, impl.Settings{}, settingsMade(), fieldNames())
}

func TestNamesOfFieldsThatAreExchanged(t *testing.T) {
	base := impl.Settings{Rate: 1, Burst: 2, PeerRate: 3, PeerBurst: 4, Memory: 6, Each: 5, Quantum: 7, Weights: []int{1, 2, 3, 4}}
	numbers := []int{1, 2, 3, 4, 6, 5, 7}
	for i := range numbers {
		for j := range i {
			s := copiedSettings(base)
			setField(&s, i, numbers[j])
			setField(&s, j, numbers[i])
			checkNames(t, base, s, []string{fieldNames()[j], fieldNames()[i]})
		}
	}
	// One number is made of the digits of another one.
	checkNames(t, impl.Settings{Rate: 1, Burst: 11}, impl.Settings{Rate: 11, Burst: 1}, []string{"rate", "burst"})
	checkNames(t, impl.Settings{Quantum: 12, Weights: []int{3}}, impl.Settings{Quantum: 1, Weights: []int{23}}, []string{"quantum", "weights"})
}

func TestNamesOfManySettings(t *testing.T) {
	all := append(validSettings(), invalidSettings()...)
	for i, a := range all {
		checkNames(t, a, copiedSettings(a), nil)
		for j := i % 7; j < len(all); j += 7 {
			checkNames(t, a, all[j], namesByHand(a, all[j]))
		}
	}
}

// settingsOfByHand returns the settings of a guard, as far as all peers and all lanes have the same.
func settingsOfByHand(g impl.Guard) (impl.Settings, bool) {
	for peer := range 8 {
		for other := range peer {
			if g.Each[peer].Rate != g.Each[other].Rate || g.Each[peer].Burst != g.Each[other].Burst {
				return impl.Settings{}, false
			}
		}
	}
	for lane := range 4 {
		for other := range lane {
			if g.Lanes.Robins[lane].Quantum != g.Lanes.Robins[other].Quantum {
				return impl.Settings{}, false
			}
		}
	}
	return impl.Settings{
		Rate: g.All.Rate, Burst: g.All.Burst, PeerRate: g.Each[7].Rate, PeerBurst: g.Each[7].Burst,
		Memory: g.Memory.Limit, Each: g.Memory.Each, Quantum: g.Lanes.Robins[3].Quantum, Weights: g.Lanes.Weights,
	}, true
}

func checkSettingsOf(t *testing.T, g impl.Guard, want impl.Settings) {
	t.Helper()
	if got, ok := impl.SettingsOf(g); !ok || !sameSettings(got, want) || !impl.SettingsValid(got) {
		t.Errorf("SettingsOf(%v) = %v, %v, want %v", g, got, ok, want)
	}
}

func checkNoSettingsOf(t *testing.T, g impl.Guard) {
	t.Helper()
	if got, ok := impl.SettingsOf(g); ok || !isZeroSettings(got) {
		t.Errorf("SettingsOf(%v) = %v, %v", g, got, ok)
	}
}

// evenGuard returns a guard with the levels, points and packets of mixedGuard, but with the same rate, burst and quantum for all.
func evenGuard(seed int, s impl.Settings) impl.Guard {
	g := mixedGuard(seed)
	for peer := range 8 {
		g.Each[peer].Rate, g.Each[peer].Burst, g.Each[peer].Level = s.PeerRate, s.PeerBurst, min(g.Each[peer].Level, s.PeerBurst)
	}
	g.All = impl.Bucket{Rate: s.Rate, Burst: s.Burst, Level: min(g.All.Level, s.Burst), At: g.All.At}
	g.Lanes.Weights = slices.Clone(s.Weights)
	for lane, r := range g.Lanes.Robins {
		g.Lanes.Robins[lane].Quantum = s.Quantum
		g.Lanes.Credits[lane] = min(g.Lanes.Credits[lane], s.Weights[lane])
		for i := range r.Flows {
			r.Flows[i].Deficit = min(r.Flows[i].Deficit, s.Quantum)
		}
	}
	return g
}

func TestSettingsOfNewGuards(t *testing.T) {
	for _, s := range validSettings() {
		for _, now := range []int{0, 5, 1000000} {
			checkSettingsOf(t, guardMade(s, now), s)
			g, _ := impl.NewGuard(s, now)
			checkSettingsOf(t, g, s)
		}
	}
}

// TestSettingsOfGuardsWithPackets has levels, points, credits and deficits that are no settings.
func TestSettingsOfGuardsWithPackets(t *testing.T) {
	for seed := range 120 {
		s := mixedSettings(seed)
		g := evenGuard(seed, s)
		s.Memory, s.Each = g.Memory.Limit, g.Memory.Each
		checkSettingsOf(t, g, s)
	}
	s := settingsMade()
	g, _ := checkAllOffered(t, guardMade(s, 5), validPackets(), 7)
	checkSettingsOf(t, g, s)
	g, _ = checkServed(t, g, 9, 2)
	checkSettingsOf(t, g, s)
	g, _ = checkKicked(t, g, 2, 20)
	checkSettingsOf(t, g, s)
}

// TestSettingsOfGuardsOfWhichOneDiffers changes the bucket of each peer, and the robin of each lane.
func TestSettingsOfGuardsOfWhichOneDiffers(t *testing.T) {
	base := evenGuard(5, settingsMade())
	checkSettingsOf(t, base, withMemory(base.Memory.Limit, base.Memory.Each))
	differ := func(how func(g *impl.Guard)) {
		t.Helper()
		g := copiedGuard(base)
		how(&g)
		if !impl.GuardValid(g) {
			t.Fatalf("the guard %v is not valid", g)
		}
		checkNoSettingsOf(t, g)
	}
	for peer := range 8 {
		differ(func(g *impl.Guard) { g.Each[peer].Rate-- })
		differ(func(g *impl.Guard) { g.Each[peer].Rate++ })
		differ(func(g *impl.Guard) { g.Each[peer].Rate = 0 })
		differ(func(g *impl.Guard) { g.Each[peer].Burst++ })
		differ(func(g *impl.Guard) { g.Each[peer].Burst, g.Each[peer].Level = 99, 0 })
		differ(func(g *impl.Guard) { g.Each[peer].Rate, g.Each[peer].Burst = 100, 10000 })
		differ(func(g *impl.Guard) { g.Each[peer].Rate, g.Each[peer].Burst = g.All.Rate, g.All.Burst })
		for other := range peer {
			differ(func(g *impl.Guard) { g.Each[peer].Rate, g.Each[other].Rate = 3, 3 })
			differ(func(g *impl.Guard) { g.Each[peer].Rate, g.Each[other].Burst = 3, 333 })
		}
	}
	for lane := range 4 {
		differ(func(g *impl.Guard) { g.Lanes.Robins[lane].Quantum++ })
		differ(func(g *impl.Guard) { g.Lanes.Robins[lane].Quantum = 500 })
		differ(func(g *impl.Guard) { g.Lanes.Robins[lane] = robinMade(1); g.Memory.Used = bytesByHand(g.Lanes) })
		for other := range lane {
			differ(func(g *impl.Guard) { g.Lanes.Robins[lane].Quantum, g.Lanes.Robins[other].Quantum = 150, 150 })
		}
	}
}

func TestSettingsOfAllGuards(t *testing.T) {
	counts := map[bool]int{}
	for _, g := range validGuards() {
		want, ok := settingsOfByHand(g)
		if ok {
			checkSettingsOf(t, g, want)
		} else {
			checkNoSettingsOf(t, g)
		}
		counts[ok]++
	}
	if counts[true] < 50 || counts[false] < 50 {
		t.Errorf("%d guards have settings, and %d have none", counts[true], counts[false])
	}
}

func TestInvalidGuardsHaveNoSettings(t *testing.T) {
	for _, g := range invalidGuards() {
		checkNoSettingsOf(t, g)
	}
}

// changedByHand returns g with the settings s at the time now, and whether they have room for what waits.
func changedByHand(g impl.Guard, s impl.Settings, now int) (impl.Guard, bool) {
	g = copiedGuard(g)
	change := func(b impl.Bucket, rate int, burst int) impl.Bucket {
		return impl.Bucket{Rate: rate, Burst: burst, Level: min(filledByHand(b, now).Level, burst), At: now}
	}
	g.Time, g.All = now, change(g.All, s.Rate, s.Burst)
	for peer := range 8 {
		g.Each[peer] = change(g.Each[peer], s.PeerRate, s.PeerBurst)
	}
	g.Memory.Limit, g.Memory.Each = s.Memory, s.Each
	g.Lanes.Weights, g.Lanes.Credits = slices.Clone(s.Weights), slices.Clone(s.Weights)
	for lane, r := range g.Lanes.Robins {
		g.Lanes.Robins[lane].Quantum = s.Quantum
		for i := range r.Flows {
			r.Flows[i].Deficit = 0
		}
	}
	return g, totalUsed(g.Memory.Used) <= s.Memory && slices.Max(g.Memory.Used) <= s.Each
}

// roomy returns s with memory for what waits in g, and this many bytes more.
func roomy(s impl.Settings, g impl.Guard, memory int, each int) impl.Settings {
	s = copiedSettings(s)
	s.Memory = min(max(totalUsed(g.Memory.Used)+memory, 1), 5000)
	s.Each = min(max(slices.Max(g.Memory.Used)+each, 1), s.Memory)
	return s
}

// checkGuardChanged compares with a change by hand, and returns the guard.
func checkGuardChanged(t *testing.T, g impl.Guard, s impl.Settings, now int) impl.Guard {
	t.Helper()
	got, ok := impl.ChangeGuard(g, s, now)
	want, fits := changedByHand(g, s, now)
	if !ok || !fits || !sameGuard(got, want) || !impl.GuardValid(got) {
		t.Fatalf("ChangeGuard(%v, %v, %d) = %v, %v, want %v, %v", g, s, now, got, ok, want, fits)
	}
	checkSettingsOf(t, got, s)
	return got
}

func checkGuardNotChanged(t *testing.T, g impl.Guard, s impl.Settings, now int) {
	t.Helper()
	if got, ok := impl.ChangeGuard(g, s, now); ok || !isZeroGuard(got) {
		t.Errorf("ChangeGuard(%v, %v, %d) = %v, %v", g, s, now, got, ok)
	}
}

// checkChangedAlike expects that a guard is changed, or refused, as it is by hand, and reports which.
func checkChangedAlike(t *testing.T, g impl.Guard, s impl.Settings, now int) bool {
	t.Helper()
	_, fits := changedByHand(g, s, now)
	if fits {
		checkGuardChanged(t, g, s, now)
	} else {
		checkGuardNotChanged(t, g, s, now)
	}
	return fits
}

func TestChangedGuards(t *testing.T) {
	counts := map[bool]int{}
	all := validSettings()
	for i, g := range validGuards() {
		for _, now := range []int{g.Time, min(g.Time+1, 1000000), min(g.Time+i%50, 1000000), 1000000} {
			s := all[(7*i+now%5)%len(all)]
			counts[checkChangedAlike(t, g, s, now)]++
			checkGuardChanged(t, g, roomy(s, g, 0, 0), now)
			checkGuardChanged(t, g, roomy(s, g, 5000, 5000), now)
		}
	}
	if counts[true] < 100 || counts[false] < 100 {
		t.Errorf("%d guards are changed, and %d are not", counts[true], counts[false])
	}
}

// TestEachSettingOfAGuardIsChanged changes one field of the settings, to all limits.
func TestEachSettingOfAGuardIsChanged(t *testing.T) {
	for seed := range 30 {
		g := evenGuard(seed, settingsMade())
		for _, s := range limitSettings() {
			checkGuardChanged(t, g, roomy(s, g, 7, 3), g.Time+seed%4)
			checkChangedAlike(t, g, s, g.Time)
		}
	}
}

func TestExampleOfAChange(t *testing.T) {
	g := checkDecision(t, guardMade(settingsMade(), 0), 1, 0, 60, 0, 1)
	s := impl.Settings{Rate: 10, Burst: 100, PeerRate: 5, PeerBurst: 50, Memory: 100, Each: 90, Quantum: 100, Weights: []int{1, 1, 1, 1}}
	got := checkGuardChanged(t, g, s, 6)
	if got.Each[1] != (impl.Bucket{Rate: 5, Burst: 50, Level: 50, At: 6}) || got.All != (impl.Bucket{Rate: 10, Burst: 100, Level: 100, At: 6}) {
		t.Errorf("the buckets are %v and %v", got.Each[1], got.All)
	}
	checkBytes(t, got, 0, 60, 0, 0, 0, 0, 0, 0)
	checkDecision(t, got, 1, 0, 31, 6, 5)
	checkDecision(t, got, 1, 0, 30, 6, 1)
	checkDecision(t, got, 2, 0, 41, 6, 5)
	checkDecision(t, got, 2, 0, 51, 6, 3)
	checkDecision(t, got, 2, 0, 40, 6, 1)
}

// TestLessMemoryThanWaits has just enough, and one byte less, for all and for each peer.
func TestLessMemoryThanWaits(t *testing.T) {
	g, _ := checkAllOffered(t, guardMade(withMemory(5000, 5000), 5), []impl.Packet{{Peer: 1, Size: 60}, {Peer: 6, Lane: 2, Size: 50}, {Peer: 6, Lane: 3, Size: 40}}, 5)
	for _, pair := range [][2]int{{150, 90}, {151, 90}, {150, 91}, {150, 150}, {5000, 90}, {5000, 5000}} {
		checkGuardChanged(t, g, withMemory(pair[0], pair[1]), 5)
	}
	for _, pair := range [][2]int{{149, 90}, {149, 149}, {150, 89}, {5000, 89}, {149, 89}, {5000, 1}, {1, 1}, {90, 90}, {150, 60}} {
		checkGuardNotChanged(t, g, withMemory(pair[0], pair[1]), 5)
	}
	// What is refused does not change anything: there is room as soon as one packet has left.
	served, _ := checkServed(t, g, 6, 1)
	checkGuardChanged(t, served, withMemory(90, 90), 6)
	checkGuardNotChanged(t, served, withMemory(89, 89), 6)
	kicked, _ := checkKicked(t, g, 6, 6)
	checkGuardChanged(t, kicked, withMemory(60, 60), 6)
	checkGuardNotChanged(t, kicked, withMemory(60, 59), 6)
	for i, g := range slices.Concat(mixedGuards(), limitGuards()) {
		total, most := totalUsed(g.Memory.Used), slices.Max(g.Memory.Used)
		if most < 2 {
			continue
		}
		s := mixedSettings(i)
		checkGuardChanged(t, g, roomy(s, g, 0, 0), g.Time)
		s.Memory, s.Each = total-1, min(most, total-1)
		checkGuardNotChanged(t, g, s, g.Time)
		s.Memory, s.Each = total, most-1
		checkGuardNotChanged(t, g, s, g.Time)
		s.Memory, s.Each = 5000, most-1
		checkGuardNotChanged(t, g, s, g.Time)
	}
	// Without packets, each memory is enough.
	for _, s := range validSettings() {
		checkGuardChanged(t, guardMade(settingsMade(), 5), s, 5)
	}
}

// TestLessMemoryForOnePeer has one peer at a time that uses most.
func TestLessMemoryForOnePeer(t *testing.T) {
	for peer := range 8 {
		g := guardMade(withMemory(5000, 5000), 5)
		for other := range 8 {
			g = checkDecision(t, g, other, other%4, 20, 5, 1)
		}
		g = checkDecision(t, g, peer, 0, 1, 5, 1)
		checkGuardChanged(t, g, withMemory(161, 21), 5)
		checkGuardNotChanged(t, g, withMemory(161, 20), 5)
		checkGuardNotChanged(t, g, withMemory(160, 21), 5)
	}
}

// changedLevels returns the bucket for all, and those of the peers, behind a change of both, which start with this level at the time 10.
func changedLevels(t *testing.T, rate int, burst int, level int, newRate int, newBurst int, now int) []impl.Bucket {
	t.Helper()
	s := settingsMade()
	s.Rate, s.PeerRate, s.Burst, s.PeerBurst = rate, rate, burst, burst
	g := guardMade(s, 10)
	g.All.Level = level
	for peer := range 8 {
		g.Each[peer].Level = level
	}
	s.Rate, s.PeerRate, s.Burst, s.PeerBurst = newRate, newRate, newBurst, newBurst
	got := checkGuardChanged(t, g, s, now)
	return append(got.Each, got.All)
}

// TestBucketsThatGetSmaller lose what they have no place for, at the time of the change.
func TestBucketsThatGetSmaller(t *testing.T) {
	check := func(got []impl.Bucket, want impl.Bucket) {
		t.Helper()
		for i, b := range got {
			if b != want {
				t.Errorf("the bucket %d is %v, want %v", i, b, want)
			}
		}
	}
	check(changedLevels(t, 10, 100, 100, 10, 50, 10), impl.Bucket{Rate: 10, Burst: 50, Level: 50, At: 10})
	check(changedLevels(t, 10, 100, 51, 10, 50, 10), impl.Bucket{Rate: 10, Burst: 50, Level: 50, At: 10})
	check(changedLevels(t, 10, 100, 50, 10, 50, 10), impl.Bucket{Rate: 10, Burst: 50, Level: 50, At: 10})
	check(changedLevels(t, 10, 100, 49, 10, 50, 10), impl.Bucket{Rate: 10, Burst: 50, Level: 49, At: 10})
	check(changedLevels(t, 10, 100, 0, 10, 1, 10), impl.Bucket{Rate: 10, Burst: 1, At: 10})
	// Tokens come in at the old rate until now, and up to the old burst.
	check(changedLevels(t, 10, 100, 0, 1, 50, 14), impl.Bucket{Rate: 1, Burst: 50, Level: 40, At: 14})
	check(changedLevels(t, 10, 100, 0, 1, 50, 16), impl.Bucket{Rate: 1, Burst: 50, Level: 50, At: 16})
	check(changedLevels(t, 1, 100, 30, 1000, 50, 14), impl.Bucket{Rate: 1000, Burst: 50, Level: 34, At: 14})
	check(changedLevels(t, 0, 100, 30, 1000, 10000, 1000000), impl.Bucket{Rate: 1000, Burst: 10000, Level: 30, At: 1000000})
	check(changedLevels(t, 10, 100, 95, 1000, 10000, 20), impl.Bucket{Rate: 1000, Burst: 10000, Level: 100, At: 20})
	check(changedLevels(t, 10, 100, 50, 0, 10000, 11), impl.Bucket{Burst: 10000, Level: 60, At: 11})
	check(changedLevels(t, 1000, 10000, 0, 0, 1, 1000000), impl.Bucket{Burst: 1, Level: 1, At: 1000000})
}

// TestBucketsThatGetSmallerAndGreaterAgain do not get back what they lost.
func TestBucketsThatGetSmallerAndGreaterAgain(t *testing.T) {
	g := guardMade(settingsMade(), 10)
	small := settingsMade()
	small.Burst, small.PeerBurst = 40, 30
	g = checkGuardChanged(t, checkGuardChanged(t, g, small, 10), settingsMade(), 10)
	if g.All.Level != 40 || g.Each[0].Level != 30 || g.Each[7].Level != 30 {
		t.Errorf("the guard is %v", g)
	}
	checkDecision(t, g, 3, 0, 31, 10, 3)
	checkDecision(t, g, 3, 0, 30, 10, 1)
	// A packet that is larger than the bucket never comes in.
	g = checkGuardChanged(t, g, small, 1000)
	checkDecision(t, g, 3, 0, 31, 100000, 3)
}

// TestBucketsOfDifferentTimesAreChanged has buckets that were last filled at different times, and are all at now then.
func TestBucketsOfDifferentTimesAreChanged(t *testing.T) {
	g := guardMade(settingsMade(), 50)
	g.All = impl.Bucket{Rate: 50, Burst: 250, Level: 0, At: 49}
	for peer := range 8 {
		g.Each[peer] = impl.Bucket{Rate: 1 + peer, Burst: 30, Level: peer, At: 50 - peer}
	}
	s := settingsMade()
	s.PeerBurst = 25
	got := checkGuardChanged(t, g, s, 52)
	for peer, want := range []int{2, 7, 14, 23, 25, 25, 25, 25} {
		if got.Each[peer] != (impl.Bucket{Rate: 10, Burst: 25, Level: want, At: 52}) {
			t.Errorf("the bucket of the peer %d is %v, want %d tokens", peer, got.Each[peer], want)
		}
	}
	if got.All != (impl.Bucket{Rate: 50, Burst: 250, Level: 150, At: 52}) {
		t.Errorf("the bucket for all is %v", got.All)
	}
}

// TestTurnsOfAChangedGuardBeginAnew has deficits and credits that the new quantum and weights would not allow.
func TestTurnsOfAChangedGuardBeginAnew(t *testing.T) {
	r := robinMade(500, flowMade(2, 599, 90, 30), flowMade(5, 0, 40, 10), flowMade(1, 300, 20))
	l := lanesMade([]int{9, 9, 9, 9}, []int{9, 0, 5, 1}, r, r, robinMade(500), r)
	g := holding(guardMade(settingsMade(), 50), l, 0, 0)
	s := roomy(settingsMade(), g, 0, 0)
	s.Quantum, s.Weights = 1, []int{1, 2, 3, 4}
	got := checkGuardChanged(t, g, s, 50)
	zero := robinMade(1, flowMade(2, 0, 90, 30), flowMade(5, 0, 40, 10), flowMade(1, 0, 20))
	if want := lanesMade([]int{1, 2, 3, 4}, []int{1, 2, 3, 4}, zero, zero, robinMade(1), zero); !sameLanes(got.Lanes, want) {
		t.Errorf("the lanes are %v, want %v", got.Lanes, want)
	}
	if !slices.Equal(got.Scores, g.Scores) || !slices.Equal(got.Memory.Used, g.Memory.Used) {
		t.Errorf("the scores are %v, and %v is used", got.Scores, got.Memory.Used)
	}
	// With these weights and this quantum, the least packet of a lane is the first one, and one of the lane 0 comes before two of the lane 1.
	_, list := checkServed(t, got, 50, 7)
	var peers []int
	for _, p := range list {
		peers = append(peers, 10*p.Lane+p.Peer)
	}
	if want := []int{1, 11, 15, 31, 35, 35, 32}; !slices.Equal(peers, want) {
		t.Errorf("the packets are of %v, want %v", peers, want)
	}
}

// TestBansAndPointsStayWhenAGuardIsChanged also lets time go on.
func TestBansAndPointsStayWhenAGuardIsChanged(t *testing.T) {
	g := guardMade(settingsMade(), 50)
	for peer := range 8 {
		g.Scores[peer] = impl.Score{Points: 90 - 10*peer, At: 43 + peer, Until: 50 + peer, Bans: peer}
	}
	got := checkGuardChanged(t, g, withMemory(300, 200), 52)
	if !slices.Equal(got.Scores, g.Scores) {
		t.Errorf("the scores become %v", got.Scores)
	}
	checkDecision(t, got, 2, 0, 1, 52, 1)
	checkDecision(t, got, 3, 0, 1, 52, 2)
}

// TestGuardsChangedToTheirOwnSettings keep all but levels that come in, deficits, credits and times.
func TestGuardsChangedToTheirOwnSettings(t *testing.T) {
	for _, s := range validSettings() {
		g := guardMade(s, 7)
		if got := checkGuardChanged(t, g, s, 7); !sameGuard(got, g) {
			t.Errorf("%v becomes %v", g, got)
		}
		if got := checkGuardChanged(t, g, s, 1000000); !sameGuard(got, withScores(guardMade(s, 1000000), g)) {
			t.Errorf("%v becomes %v", g, got)
		}
	}
}

// withScores returns g with the scores of another guard.
func withScores(g impl.Guard, other impl.Guard) impl.Guard {
	g.Scores = slices.Clone(other.Scores)
	return g
}

// TestGuardsOfDifferentBucketsGetSettings changes guards that have no settings, as their peers or lanes differ.
func TestGuardsOfDifferentBucketsGetSettings(t *testing.T) {
	count := 0
	for i, g := range mixedGuards() {
		if _, has := impl.SettingsOf(g); !has {
			count++
		}
		checkGuardChanged(t, g, roomy(mixedSettings(i), g, i, i), g.Time+i)
	}
	if count < 100 {
		t.Errorf("only %d guards have no settings", count)
	}
}

func TestInvalidSettingsDoNotChangeGuards(t *testing.T) {
	for _, g := range []impl.Guard{guardMade(settingsMade(), 50), mixedGuard(3), guardToSpoil()} {
		for _, s := range invalidSettings() {
			checkGuardNotChanged(t, g, s, g.Time)
			checkGuardNotChanged(t, g, s, g.Time+5)
		}
	}
}

func TestInvalidGuardsAreNotChanged(t *testing.T) {
	for _, g := range invalidGuards() {
		for _, now := range []int{g.Time, 50, 60, 1000000} {
			checkGuardNotChanged(t, g, settingsMade(), now)
			checkGuardNotChanged(t, g, withMemory(5000, 5000), now)
		}
	}
}

func TestTimesAtWhichGuardsAreNotChanged(t *testing.T) {
	for i, g := range validGuards() {
		s := roomy(mixedSettings(i), g, 0, 0)
		for _, now := range []int{g.Time - 1, -1, 1000001, leastInt, mostInt} {
			checkGuardNotChanged(t, g, s, now)
		}
		checkGuardChanged(t, g, s, g.Time)
	}
	// The time is that of the guard, also where all its parts are of earlier ones.
	g := guardMade(settingsMade(), 10)
	g.Time = 20
	checkGuardNotChanged(t, g, settingsMade(), 19)
	checkGuardNotChanged(t, g, settingsMade(), 10)
	checkGuardChanged(t, g, settingsMade(), 20)
}

func pieceOfNames(list []string) memoryPiece {
	return pieceOf("names", list, "other", func(name string) string { return name })
}

// settingCalls returns, by name, calls with settings, each of which returns all memory of its result.
func settingCalls() map[string]func(s impl.Settings) []memoryPiece {
	names := func(other impl.Settings) func(s impl.Settings) []memoryPiece {
		return func(s impl.Settings) []memoryPiece { return []memoryPiece{pieceOfNames(impl.ChangedNames(s, other))} }
	}
	read := func(s impl.Settings) []memoryPiece {
		got, _ := impl.ParseSettings(impl.FormatSettings(s))
		return []memoryPiece{pieceOfNumbers("Weights", got.Weights)}
	}
	change := func(s impl.Settings) []memoryPiece {
		got, _ := impl.ChangeGuard(guardMade(settingsMade(), 5), s, 5)
		return piecesOfGuard(got)
	}
	reread := func(s impl.Settings) []memoryPiece {
		g, _ := impl.ChangeGuard(guardMade(settingsMade(), 5), s, 5)
		got, _ := impl.SettingsOf(g)
		return append(piecesOfGuard(g), pieceOfNumbers("Weights of the settings", got.Weights))
	}
	same := func(s impl.Settings) []memoryPiece {
		return []memoryPiece{pieceOf("same", []bool{impl.SettingsSame(s, s)}, false, func(b bool) string { return fmt.Sprint(b) })}
	}
	return map[string]func(s impl.Settings) []memoryPiece{
		"ChangedNames of one": names(withMemory(201, 120)), "ChangedNames of all": names(impl.Settings{}), "ParseSettings": read,
		"ChangeGuard": change, "SettingsOf": reread, "SettingsSame": same,
	}
}

// memorySettings returns settings whose weights have spare capacity, in which a careless append would write.
func memorySettings() []impl.Settings {
	var list []impl.Settings
	for _, s := range append(limitSettings()[:40], invalidSettings()...) {
		s.Weights = append(slices.Clone(s.Weights), 7, 7, 7)[:len(s.Weights)]
		list = append(list, s)
	}
	return list
}

func TestSettingsStayAsTheyAre(t *testing.T) {
	checkUnchanged(t, settingCalls(), memorySettings(), func(s impl.Settings) []memoryPiece { return []memoryPiece{pieceOfNumbers("Weights", s.Weights)} })
}

func TestResultsOfSettingsShareNoMemory(t *testing.T) {
	checkApart(t, settingCalls(), memorySettings())
}

// changeCalls returns, by name, calls that change guards or read their settings.
func changeCalls() map[string]func(g impl.Guard) []memoryPiece {
	change := func(s impl.Settings, ticks int) func(g impl.Guard) []memoryPiece {
		return func(g impl.Guard) []memoryPiece {
			got, _ := impl.ChangeGuard(g, s, g.Time+ticks)
			return piecesOfGuard(got)
		}
	}
	read := func(g impl.Guard) []memoryPiece {
		got, _ := impl.SettingsOf(g)
		return []memoryPiece{pieceOfNumbers("Weights", got.Weights)}
	}
	own := func(g impl.Guard) []memoryPiece {
		s := impl.Settings{Burst: 1, PeerBurst: 1, Memory: g.Memory.Limit, Each: g.Memory.Each, Quantum: 1, Weights: g.Lanes.Weights}
		got, _ := impl.ChangeGuard(g, s, g.Time)
		return piecesOfGuard(got)
	}
	wide := withMemory(5000, 5000)
	return map[string]func(g impl.Guard) []memoryPiece{
		"ChangeGuard": change(wide, 0), "ChangeGuard of a later time": change(wide, 9), "ChangeGuard with its own weights": own,
		"ChangeGuard with too little memory": change(withMemory(1, 1), 0), "ChangeGuard of an earlier time": change(wide, -1), "SettingsOf": read,
	}
}

// memoryGuardsWithSettings returns guards whose lists have spare capacity, and of which some have settings.
func memoryGuardsWithSettings() []impl.Guard {
	list := memoryGuards()
	for i, g := range list {
		for peer := range g.Each {
			g.Each[peer].Rate, g.Each[peer].Burst = 10, 100
		}
		for lane, r := range g.Lanes.Robins {
			g.Lanes.Robins[lane].Quantum = 500
			if i%3 == 0 {
				g.Lanes.Robins[lane].Flows = r.Flows[:0]
			}
		}
		if i%3 == 0 {
			copy(g.Memory.Used, usedByAll(0))
		}
	}
	return list
}

func TestChangedGuardsStayAsTheyAre(t *testing.T) {
	for _, list := range [][]impl.Guard{memoryGuards(), memoryGuardsWithSettings()} {
		checkUnchanged(t, changeCalls(), list, piecesOfGuard)
	}
	for i, g := range memoryGuardsWithSettings() {
		s, ok := settingsOfByHand(g)
		if !ok {
			t.Errorf("by hand, the guard %d has no settings", i)
		}
		checkSettingsOf(t, g, s)
	}
}

func TestResultsOfChangesShareNoMemory(t *testing.T) {
	for _, list := range [][]impl.Guard{memoryGuards(), memoryGuardsWithSettings()} {
		checkApart(t, changeCalls(), list[:15])
	}
}

// TestSettingsThatAreChangedLater writes to the settings with which a guard was changed.
func TestSettingsThatAreChangedLater(t *testing.T) {
	s := settingsMade()
	got, _ := impl.ChangeGuard(mixedGuard(5), roomy(s, mixedGuard(5), 0, 0), 100000)
	want := copiedGuard(got)
	read, _ := impl.SettingsOf(got)
	overwriteNumbers(read.Weights)
	if !sameGuard(got, want) {
		t.Errorf("SettingsOf shares memory with %v", got)
	}
	kept, _ := impl.ChangeGuard(guardMade(settingsMade(), 5), s, 5)
	want = copiedGuard(kept)
	overwriteNumbers(s.Weights)
	if !sameGuard(kept, want) {
		t.Errorf("ChangeGuard keeps the weights: %v", kept)
	}
}

// changeStep changes a guard to settings of which some are too small, and returns it as it is then.
func changeStep(t *testing.T, g impl.Guard, n int) (impl.Guard, bool) {
	t.Helper()
	s := mixedSettings(n)
	s.Rate, s.PeerRate, s.Burst, s.PeerBurst = s.Rate%60, s.PeerRate%20, 50+s.Burst%400, 30+s.PeerBurst%200
	s.Memory = 100 + s.Memory%600
	s.Each = min(s.Memory, 50+s.Each%300)
	if !checkChangedAlike(t, g, s, g.Time+n%3) {
		return g, false
	}
	return checkGuardChanged(t, g, s, g.Time+n%3), true
}

// TestGuardsAreChangedWhileTheyRun follows rows of calls with changes in between: nothing comes in that is not paid for, and nothing that came in is lost.
func TestGuardsAreChangedWhileTheyRun(t *testing.T) {
	changed, refused := 0, 0
	for seed := range 40 {
		g := guardMade(settingsMade(), seed)
		whole, part := ledger{start: g}, ledger{start: g}
		n := seed
		for step := range 250 {
			n = (n*1103515245 + 12345) % 2147483648
			kind := n / 65536 % 12
			if kind == 2 {
				next, ok := changeStep(t, g, n/256)
				if ok {
					g, part, changed = next, ledger{start: next}, changed+1
				} else {
					refused++
				}
				continue
			}
			came, left := len(part.joined), len(part.gone)
			g = guardStep(t, g, &part, kind, n/256, 4*step)
			whole.joined, whole.gone = append(whole.joined, part.joined[came:]...), append(whole.gone, part.gone[left:]...)
			part.checkPaid(t, g)
			whole.checkWaiting(t, g)
		}
		g, gone := checkServed(t, g, g.Time, mostInt)
		whole.gone = append(whole.gone, gone...)
		whole.checkWaiting(t, g)
		whole.checkAllLeft(t)
	}
	if changed < 300 || refused < 100 {
		t.Errorf("%d changes are made, and %d are refused", changed, refused)
	}
}

// TestFunctionsOfSettingsKeepNothing calls all functions twice, with others in between.
func TestFunctionsOfSettingsKeepNothing(t *testing.T) {
	all := append(validSettings(), invalidSettings()...)
	text := func(i int) string {
		s, other, g := all[i], all[(i+1)%len(all)], mixedGuard(i%20)
		return fmt.Sprintln(impl.ParseSettings(textOfSettings(s))) + impl.FormatSettings(s) + fmt.Sprintln(impl.ChangedNames(s, other), impl.SettingsSame(s, other)) +
			fmt.Sprintln(impl.ChangeGuard(g, s, g.Time)) + fmt.Sprintln(impl.SettingsOf(evenGuard(i%20, settingsMade())))
	}
	var before []string
	for i := range all {
		before = append(before, text(i))
	}
	for i := range slices.Backward(all) {
		if second := text(i); second != before[i] {
			t.Errorf("the functions of %v return %q, and then %q", all[i], before[i], second)
		}
	}
}
