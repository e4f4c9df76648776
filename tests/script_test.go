package tests

import (
	"fmt"
	"regexp"
	"slices"
	"strconv"
	"strings"
	"sync"
	"testing"

	"loop.example/trafficguard/impl"
)

// exampleScript and exampleOutput are those of the document.
const exampleScript = `offer 1/0:60#1 1/0:60#2 2/1:50#3
peer 1
lanes
serve 1
wait 6
peer 1
offer 1/1:90#4 2/0:100#5
tokens
kick 2
offer 2/0:1#6
peer 2
change rate=10 burst=100 peer-rate=5 peer-burst=50 memory=80 each=40 quantum=100 weights=1,1,1,1
change rate=10 burst=100 peer-rate=5 peer-burst=50 memory=100 each=90 quantum=100 weights=1,1,1,1
settings
peer 1
serve 5
report
fairness
`

const exampleOutput = `in fast in
tokens 40 bytes 60 points 20
lanes 1 1 0 0
served 1/0:60#1
time 6
tokens 100 bytes 0 points 14
in full
tokens 160
dropped 2/1:50#3
banned
tokens 100 bytes 0 points 0 banned 56
refused
ok
rate=10 burst=100 peer-rate=5 peer-burst=50 memory=100 each=90 quantum=100 weights=1,1,1,1
tokens 10 bytes 90 points 14
served 1/1:90#4
in 3
banned 1
fast 1
busy 0
full 1
peer 1 150
end
fairness 125
`

// greatText is the text of the settings with the greatest numbers.
const greatText = "rate=1000 burst=10000 peer-rate=1000 peer-burst=10000 memory=5000 each=5000 quantum=500 weights=9,9,9,9"

// smallText is the text of the settings with the least numbers.
const smallText = "rate=0 burst=1 peer-rate=0 peer-burst=1 memory=1 each=1 quantum=1 weights=1,1,1,1"

// noneReported is the report of nothing.
const noneReported = "in 0\nbanned 0\nfast 0\nbusy 0\nfull 0\nend"

// desk is an interpreter made by hand.
type desk struct {
	guard     impl.Guard
	now       int
	decisions []int
	served    []impl.Packet
}

// deskLine is a kind of line, with what is behind its first space, and what is done.
type deskLine struct {
	pattern *regexp.Regexp
	answer  func(d *desk, rest string) string
}

// deskLines returns the lines of the document's table.
func deskLines() []deskLine {
	number := "(0|[1-9][0-9]{0,16})"
	line := func(pattern string, answer func(d *desk, rest string) string) deskLine {
		return deskLine{regexp.MustCompile("(?s)^" + pattern + "$"), answer}
	}
	return []deskLine{
		line("new (.*)", (*desk).begin), line("change (.*)", (*desk).change), line("offer (.*)", (*desk).offer),
		line("wait "+number, (*desk).wait), line("serve "+number, (*desk).serve), line("kick ([0-7])", (*desk).kick),
		line("peer ([0-7])", (*desk).peer), line("report()", (*desk).report), line("settings()", (*desk).settings),
		line("lanes()", (*desk).lanes), line("tokens()", (*desk).tokens), line("fairness()", (*desk).fairness),
	}
}

// theDeskLines are made once, as patterns take their time.
var theDeskLines = deskLines()

// scriptByHand executes a script at a desk.
func scriptByHand(text string) string {
	if len(text) >= 20001 {
		return "long\n"
	}
	d := desk{guard: guardMade(settingsMade(), 0)}
	var output strings.Builder
	for before, line := range strings.Split(text, "\n") {
		if line != "" && (before > 199 || output.Len() > 40000) {
			return output.String() + "full\n"
		}
		if line != "" {
			output.WriteString(d.answer(line) + "\n")
		}
	}
	return output.String()
}

func (d *desk) answer(line string) string {
	for _, l := range theDeskLines {
		if parts := l.pattern.FindStringSubmatch(line); parts != nil {
			return l.answer(d, parts[1])
		}
	}
	return "what"
}

func (d *desk) begin(rest string) string {
	s, ok := readByHand(rest)
	if !ok {
		return "what"
	}
	*d = desk{guard: guardMade(s, 0)}
	return "ok"
}

func (d *desk) change(rest string) string {
	s, ok := readByHand(rest)
	if !ok {
		return "what"
	}
	next, fits := changedByHand(d.guard, s, d.now)
	if !fits {
		return "refused"
	}
	d.guard = next
	return "ok"
}

func (d *desk) offer(rest string) string {
	list, ok := packetsByHand(rest)
	if !ok {
		return "what"
	}
	next, decisions := allOfferedByHand(d.guard, list, d.now)
	d.guard, d.decisions = next, append(d.decisions, decisions...)
	text := fmt.Sprint(decisions)
	for decision, name := range []string{"", "in", "banned", "fast", "busy", "full"} {
		text = strings.ReplaceAll(text, strconv.Itoa(decision), name)
	}
	return strings.Trim(text, "[]")
}

func (d *desk) wait(rest string) string {
	ticks, _ := strconv.Atoi(rest)
	if d.now+ticks > 1000000 {
		return "what"
	}
	d.now += ticks
	return fmt.Sprint("time ", d.now)
}

func (d *desk) serve(rest string) string {
	count, _ := strconv.Atoi(rest)
	next, list := servedByHand(d.guard, d.now, count)
	d.guard, d.served = next, append(d.served, list...)
	return strings.TrimRight("served "+textsOf(list), " ")
}

func (d *desk) kick(rest string) string {
	next, list := kickedByHand(d.guard, int(rest[0]-'0'), d.now)
	d.guard = next
	return strings.TrimRight("dropped "+textsOf(list), " ")
}

func (d *desk) peer(rest string) string {
	peer := int(rest[0] - '0')
	score := d.guard.Scores[peer]
	text := fmt.Sprintf("tokens %d bytes %d points %d", filledByHand(d.guard.Each[peer], d.now).Level, bytesByHand(d.guard.Lanes)[peer], fadedByHand(score, d.now).Points)
	if score.Until > d.now {
		text += fmt.Sprintf(" banned %d", score.Until)
	}
	return text
}

func (d *desk) report(string) string {
	if len(d.served) > 1000 {
		return "end"
	}
	return reportByHand(d.decisions, d.served) + "end"
}

func (d *desk) settings(string) string {
	s, _ := settingsOfByHand(d.guard)
	return textOfSettings(s)
}

func (d *desk) lanes(string) string {
	text := "lanes"
	for _, r := range d.guard.Lanes.Robins {
		count := 0
		for _, f := range r.Flows {
			count += len(f.Waits)
		}
		text += fmt.Sprint(" ", count)
	}
	return text
}

func (d *desk) tokens(string) string {
	return fmt.Sprint("tokens ", filledByHand(d.guard.All, d.now).Level)
}

func (d *desk) fairness(string) string {
	switch {
	case len(d.served) > 1000:
		return "fairness 0"
	case len(d.served) == 0:
		return "fairness 1000"
	}
	return fmt.Sprint("fairness ", fairnessByHand(sizesByPeer(d.served)))
}

// packetsByHand scans a text with at least one packet, and accepts what is written in the same way.
func packetsByHand(text string) ([]impl.Packet, bool) {
	var list []impl.Packet
	for _, part := range strings.Split(text, " ") {
		var p impl.Packet
		fmt.Sscanf(part, "%d/%d:%d#%d", &p.Peer, &p.Lane, &p.Size, &p.Id)
		small := p.Peer >= 0 && p.Peer < 8 && p.Lane >= 0 && p.Lane < 4 && p.Id >= 0 && p.Id < 10000
		if textOf(p) != part || !small || p.Size < 1 || p.Size > 100 {
			return nil, false
		}
		list = append(list, p)
	}
	return list, len(list) <= 64
}

// offerOf returns a line that offers packets.
func offerOf(list ...impl.Packet) string {
	return "offer " + textsOf(list)
}

// linesOf joins lines, each with a newline.
func linesOf(lines ...string) string {
	text := ""
	for _, line := range lines {
		text += line + "\n"
	}
	return text
}

// wrongLines returns lines that are none of the table, or have an answer of what in any state. Some have no rest or an empty one, where the table has it otherwise.
func wrongLines() []string {
	list := []string{" ", "  ", "x", "what", "ok", "long", "full", "end", "\t", "\r", "\x00", "\xff", "é", "#", "0", "-", "//"}
	for _, word := range []string{"new", "change", "offer", "wait", "serve", "kick", "peer"} {
		list = append(list, word, word+" ", word+"  ", word+" x", word+"\t1", word+"1", strings.ToUpper(word)+" 1", " "+word+" 1", word+" -1", word+" 1 ", word+"  1", word+" 01", word+" 1\r", word+" 1 1")
	}
	for _, word := range []string{"report", "settings", "lanes", "tokens", "fairness"} {
		list = append(list, word+" ", word+" 1", word+" x", word+"\r", word+"\t", " "+word, word+word, word+"s", word[1:], word[:len(word)-1], strings.ToUpper(word), strings.ToUpper(word[:1])+word[1:], word+"\x00")
	}
	for _, text := range wrongSettingTexts() {
		list = append(list, "new "+text, "change "+text)
	}
	for _, text := range wrongPacketTexts() {
		list = append(list, "offer "+text)
	}
	for _, text := range wrongNumbers() {
		list = append(list, "wait "+text, "serve "+text, "kick "+text, "peer "+text)
	}
	for _, n := range []string{"8", "9", "10", "70", "99999999999999999", "10000000000000000"} {
		list = append(list, "kick "+n, "peer "+n)
	}
	return append(list, "wait 1000001", "wait 10000000000000000", "wait 99999999999999999")
}

// someSettings returns settings at their limits, and others.
func someSettings() []impl.Settings {
	list := extremeSettings()
	for i, s := range validSettings() {
		if i%7 == 0 {
			list = append(list, s)
		}
	}
	return list
}

// wrongSettingTexts returns texts that are not those of settings.
func wrongSettingTexts() []string {
	list := []string{" " + exampleText, exampleText + " ", exampleText + "\r", exampleText + ",1", exampleText + " " + exampleText, "new " + exampleText,
		strings.ToUpper(exampleText), strings.ReplaceAll(exampleText, " ", ","), strings.TrimSuffix(exampleText, ",1"), exampleText[1:], strings.Replace(exampleText, " ", "  ", 1)}
	for _, s := range invalidSettings() {
		list = append(list, textOfSettings(s))
	}
	return list
}

// wrongPacketTexts returns texts that are not those of packets, or of too many.
func wrongPacketTexts() []string {
	list := []string{"1/0:60", "1/0:60#1 ", " 1/0:60#1", "1/0:60#1  2/0:60#1", "1/0:60#1,2/0:60#1", "1/0:60#1 x", "x 1/0:60#1", "1/0:060#1", "+1/0:60#1", "1/0:60#1\r", "1/0:60#1\t", "1:0/60#1"}
	for _, p := range invalidPackets() {
		list = append(list, textOf(p), "1/0:60#1 "+textOf(p), textOf(p)+" 1/0:60#1", "1/0:60#1 "+textOf(p)+" 2/0:60#1")
	}
	return append(list, textsOf(ofOneByte(65)), textsOf(ofOneByte(100)), textsOf(ofOneByte(64))+" ", textsOf(ofOneByte(64))+" x")
}

// wrongNumbers returns texts that are not those of numbers, or have more than 17 digits.
func wrongNumbers() []string {
	return []string{
		"", " ", "00", "01", "007", "-0", "-1", "+0", "+1", "1.0", "1,0", "1e3", "0x1", "0b1", "1_0", "a", "1a", "a1", "one", "²", "１", "1\x00", "\x001", "/", ":", "1/", "1:",
		"100000000000000000", "999999999999999999", "000000000000000001", "00000000000000001", "9223372036854775807", "9223372036854775808", "18446744073709551615", "18446744073709551616", "18446744073709551617", strings.Repeat("0", 100), strings.Repeat("1", 1000),
	}
}

// mixedPackets returns packets of a few peers from a row of numbers.
func mixedPackets(row []int, count int, most int) []impl.Packet {
	var list []impl.Packet
	for i := range count {
		n := row[i%len(row)] + 7*i
		list = append(list, impl.Packet{Peer: n % 5 * (n / 5 % 2), Lane: n / 16 % 4, Size: 1 + n/3%most, Id: n % 10000})
	}
	return list
}

// mixedChange returns settings of which some have too little memory for what waits.
func mixedChange(seed int) string {
	s := mixedSettings(seed)
	s.Rate, s.PeerRate, s.Burst, s.PeerBurst = s.Rate%60, s.PeerRate%20, 50+s.Burst%400, 30+s.PeerBurst%200
	s.Memory = 50 + s.Memory%400
	s.Each = min(s.Memory, 30+s.Each%200)
	return textOfSettings(s)
}

// mixedLine returns a line of the table from a row of numbers, or a wrong one.
func mixedLine(wrong []string, row []int) string {
	plain := []string{"report", "settings", "lanes", "tokens", "fairness", ""}
	n := row[1]
	switch kind := row[0] % 40; {
	case kind < 13:
		return offerOf(mixedPackets(row[2:], 1+n%6, 5+row[2]%96)...)
	case kind < 15:
		return offerOf(mixedPackets(row[2:], 64-n%5, 1+row[2]%10)...)
	case kind < 19:
		return fmt.Sprint("wait ", n%12*(n/16%3))
	case kind < 24:
		return fmt.Sprint("serve ", n%5*(1+n/256%4))
	case kind == 24:
		return fmt.Sprint("kick ", n%8)
	case kind < 29:
		return fmt.Sprint("peer ", n%8)
	case kind < 36:
		return plain[n%len(plain)]
	case kind < 38:
		return "change " + mixedChange(n)
	case kind == 38 && n%4 == 0:
		return "new " + mixedChange(n)
	}
	return wrong[n%len(wrong)]
}

// mixedScript returns a script of lines of all kinds.
func mixedScript(wrong []string, seed int, count int) string {
	var lines []string
	for i := range count {
		lines = append(lines, mixedLine(wrong, numberRow(1000*seed+i, 10, 32768)))
	}
	return strings.Join(lines, "\n")
}

// mixedScripts returns scripts of which some end with a newline, and some with a line or in the middle of one.
func mixedScripts() []string {
	wrong := slices.DeleteFunc(wrongLines(), func(line string) bool { return len(line) > 200 })
	var list []string
	for seed := range 150 {
		text := mixedScript(wrong, seed, 1+seed)
		text = text[:min(len(text), 20000)]
		list = append(list, text, text+"\n")
	}
	return list
}

func checkScript(t *testing.T, text string, want string) {
	t.Helper()
	if got := impl.RunScript(text); got != want {
		t.Errorf("RunScript(%.3000q) = %.3000q, want %.3000q", text, got, want)
	}
	if got := scriptByHand(text); got != want {
		t.Errorf("by hand, %.3000q gives %.3000q, want %.3000q", text, got, want)
	}
}

// checkAlike compares with a script that is executed by hand, and returns the output.
func checkAlike(t *testing.T, text string) string {
	t.Helper()
	got, want := impl.RunScript(text), scriptByHand(text)
	if got != want {
		t.Errorf("RunScript(%.3000q) = %.3000q, want %.3000q", text, got, want)
	}
	return got
}

// checkTalk runs a script of the lines at even places, and expects the answers behind them.
func checkTalk(t *testing.T, talk ...string) {
	t.Helper()
	text, want := "", ""
	for i := 0; i < len(talk); i += 2 {
		text += talk[i] + "\n"
		want += talk[i+1] + "\n"
	}
	checkScript(t, text, want)
	// The last line does not need a newline.
	checkScript(t, text[:len(text)-1], want)
}

func TestScriptLimitConstants(t *testing.T) {
	if impl.MaxScript != 20000 || impl.MaxLines != 200 || impl.MaxOutput != 40000 {
		t.Errorf("limits = %d, %d, %d", impl.MaxScript, impl.MaxLines, impl.MaxOutput)
	}
}

func TestExampleOfScript(t *testing.T) {
	checkScript(t, exampleScript, exampleOutput)
	checkScript(t, strings.TrimSuffix(exampleScript, "\n"), exampleOutput)
}

// TestScriptsBegin asks for everything before anything is done.
func TestScriptsBegin(t *testing.T) {
	for _, start := range [][]string{nil, {"new " + exampleText, "ok"}} {
		talk := append(slices.Clone(start), "settings", exampleText, "lanes", "lanes 0 0 0 0", "tokens", "tokens 250", "fairness", "fairness 1000", "report", noneReported, "serve 5", "served", "wait 0", "time 0")
		for peer := range 8 {
			talk = append(talk, fmt.Sprint("peer ", peer), "tokens 100 bytes 0 points 0")
		}
		checkTalk(t, talk...)
	}
}

func TestEmptyScripts(t *testing.T) {
	for _, count := range []int{0, 1, 2, 199, 200, 201, 202, 5000, 20000} {
		checkScript(t, strings.Repeat("\n", count), "")
	}
	checkScript(t, strings.Repeat("\n", 20001), "long\n")
}

func TestEmptyLinesHaveNoOutput(t *testing.T) {
	want := "time 1\nwhat\ntime 3\n"
	for _, text := range []string{"wait 1\nx\nwait 2", "wait 1\nx\nwait 2\n", "\nwait 1\nx\nwait 2", "\n\nwait 1\n\n\nx\n\nwait 2\n\n\n\n", "wait 1\n\n\n\n\n\nx\nwait 2\n\n"} {
		checkScript(t, text, want)
	}
	lines := strings.Split(strings.TrimSuffix(exampleScript, "\n"), "\n")
	for place := range len(lines) + 1 {
		checkScript(t, linesOf(slices.Insert(slices.Clone(lines), place, "")...), exampleOutput)
		checkScript(t, linesOf(slices.Insert(slices.Clone(lines), place, "", "", "", "")...), exampleOutput)
	}
	checkScript(t, strings.ReplaceAll(exampleScript, "\n", "\n\n\n"), exampleOutput)
}

func TestNewLineBeginsAnew(t *testing.T) {
	before := []string{"offer 1/0:60#1 1/0:60#2 2/1:50#3", "in fast in", "wait 40", "time 40", "serve 1", "served 1/0:60#1", "kick 3", "dropped", "offer 4/2:100#9", "in", "change " + exampleText, "ok", "wait 5", "time 45"}
	for _, s := range someSettings() {
		text := textOfSettings(s)
		talk := []string{"new " + text, "ok", "settings", text, "lanes", "lanes 0 0 0 0", "tokens", fmt.Sprint("tokens ", s.Burst), "fairness", "fairness 1000", "report", noneReported}
		for peer := range 8 {
			talk = append(talk, fmt.Sprint("peer ", peer), fmt.Sprintf("tokens %d bytes 0 points 0", s.PeerBurst))
		}
		talk = append(talk, "serve 99", "served", "wait 1", "time 1", "new "+exampleText, "ok", "wait 2", "time 2")
		checkTalk(t, talk...)
		checkTalk(t, slices.Concat(before, talk)...)
	}
}

// TestNewLineForgetsAll puts a script behind another one with a new line in between.
func TestNewLineForgetsAll(t *testing.T) {
	scripts := mixedScripts()
	for i, text := range scripts[:100] {
		if strings.Count(text, "\n") > 90 || len(text) > 9000 || strings.HasSuffix(text, "\n") {
			continue
		}
		second := scripts[(17*i+41)%100]
		first := text + "\nnew " + exampleText + "\n"
		checkScript(t, first+second, scriptByHand(text)+"ok\n"+scriptByHand(second))
	}
}

func TestNewLineWithoutSettings(t *testing.T) {
	for _, text := range append(wrongSettingTexts(), "", " ", "x", "new", exampleText+"\x00") {
		checkTalk(t, "offer 1/0:60#1", "in", "wait 3", "time 3", "new "+text, "what", "wait 1", "time 4", "peer 1", "tokens 80 bytes 60 points 0", "settings", exampleText)
	}
	checkTalk(t, "wait 3", "time 3", "new", "what", "wait 1", "time 4")
}

func TestChangeLine(t *testing.T) {
	// The buckets have 250 and 100 tokens, less 60 and more 6 times 50 and 10, and get the rates 10 and 5.
	other := "rate=10 burst=400 peer-rate=5 peer-burst=110 memory=100 each=90 quantum=100 weights=1,2,3,4"
	checkTalk(t, "offer 1/0:60#1", "in", "wait 3", "time 3", "peer 1", "tokens 70 bytes 60 points 0", "change "+other, "ok", "settings", other,
		"peer 1", "tokens 70 bytes 60 points 0", "tokens", "tokens 250", "wait 2", "time 5", "peer 1", "tokens 80 bytes 60 points 0", "tokens", "tokens 270",
		"peer 2", "tokens 110 bytes 0 points 0", "lanes", "lanes 1 0 0 0", "serve 2", "served 1/0:60#1", "report", "in 1\nbanned 0\nfast 0\nbusy 0\nfull 0\npeer 1 60\nend")
	for _, s := range someSettings() {
		checkTalk(t, "wait 7", "time 7", "change "+textOfSettings(s), "ok", "settings", textOfSettings(s), "wait 1", "time 8", "tokens", fmt.Sprint("tokens ", min(s.Burst, min(s.Burst, 250)+s.Rate)))
	}
}

func TestChangeLineThatIsRefused(t *testing.T) {
	text := func(memory int, each int) string { return textOfSettings(withMemory(memory, each)) }
	start := []string{"wait 9", "time 9", "offer 1/0:60#1 2/1:50#2", "in in", "wait 1", "time 10"}
	still := []string{"settings", exampleText, "peer 1", "tokens 50 bytes 60 points 0", "tokens", "tokens 190", "lanes", "lanes 1 1 0 0", "serve 9", "served 1/0:60#1 2/1:50#2"}
	for _, refused := range []string{text(109, 109), text(109, 60), text(110, 59), text(5000, 59), text(1, 1), text(200, 1), smallText} {
		checkTalk(t, slices.Concat(start, []string{"change " + refused, "refused"}, still)...)
		checkTalk(t, slices.Concat(start, []string{"change " + refused, "refused", "change " + refused, "refused"}, still, []string{"change " + refused, "ok", "settings", refused})...)
	}
	for _, fits := range []string{text(110, 60), text(110, 110), text(200, 60), greatText} {
		checkTalk(t, slices.Concat(start, []string{"change " + fits, "ok", "settings", fits, "lanes", "lanes 1 1 0 0"})...)
	}
	for _, wrong := range append(wrongSettingTexts(), "", "x") {
		checkTalk(t, slices.Concat(start, []string{"change " + wrong, "what"}, still)...)
	}
	checkTalk(t, slices.Concat(start, []string{"change", "what"}, still)...)
}

// TestOfferLine has each decision, and rows of them.
func TestOfferLine(t *testing.T) {
	checkTalk(t, "offer 1/0:100#1", "in", "offer 1/0:1#2", "fast", "peer 1", "tokens 0 bytes 100 points 20")
	checkTalk(t, "kick 1", "dropped", "offer 1/0:1#2", "banned", "peer 1", "tokens 100 bytes 0 points 0 banned 50")
	checkTalk(t, "offer 1/0:100#1 2/1:100#2", "in in", "offer 3/0:51#3", "busy", "offer 3/0:50#3", "full", "tokens", "tokens 50", "peer 3", "tokens 100 bytes 0 points 0")
	checkTalk(t, "offer 1/0:100#1", "in", "wait 10", "time 10", "offer 1/0:21#2 1/0:20#3 1/0:1#4", "full in full")
	checkTalk(t, "offer 1/0:60#1 1/0:60#2 1/0:60#2 1/0:60#2 1/0:60#2 1/0:60#2 1/0:1#3 2/3:100#9999", "in fast fast fast fast fast banned in",
		"peer 1", "tokens 40 bytes 60 points 0 banned 50", "report", "in 2\nbanned 1\nfast 5\nbusy 0\nfull 0\nend")
	checkTalk(t, "offer 1/0:80#1 2/0:80#2 3/0:100#3 4/0:90#4 4/0:41#5 2/0:30#7 1/0:20#1", "in in busy full full fast in", "report", "in 3\nbanned 0\nfast 1\nbusy 1\nfull 2\nend")
	// The flow of the peer has 64 packets, though there are bytes left.
	checkTalk(t, offerOf(slices.Repeat([]impl.Packet{{Peer: 1, Size: 1}}, 64)...), strings.TrimSuffix(strings.Repeat("in ", 64), " "), "offer 1/0:1#1 1/1:1#2", "full in")
}

func TestOfferLineWithoutPackets(t *testing.T) {
	after := []string{"report", noneReported, "lanes", "lanes 0 0 0 0", "tokens", "tokens 250", "peer 1", "tokens 100 bytes 0 points 0"}
	for _, text := range append(wrongPacketTexts(), "", " ", "x") {
		checkTalk(t, append([]string{"offer " + text, "what"}, after...)...)
	}
	checkTalk(t, append([]string{"offer", "what"}, after...)...)
}

// TestOfferLineOfManyPackets has as many as a list with a text has, and one more.
func TestOfferLineOfManyPackets(t *testing.T) {
	for _, count := range []int{1, 2, 8, 63, 64, 65, 66, 128} {
		list := ofOneByte(count)
		want, bytes := "what", 0
		if count <= 64 {
			want, bytes = strings.TrimSuffix(strings.Repeat("in ", count), " "), count
		}
		checkTalk(t, offerOf(list...), want, "tokens", fmt.Sprint("tokens ", 250-bytes))
	}
}

func TestWaitLine(t *testing.T) {
	checkTalk(t, "wait 0", "time 0", "wait 1", "time 1", "wait 0", "time 1", "wait 20", "time 21", "wait 999979", "time 1000000", "wait 0", "time 1000000", "wait 1", "what", "wait 0", "time 1000000")
	for _, n := range []int{0, 1, 2, 9, 10, 99999, 100000, 999998, 999999, 1000000} {
		text, rest := strconv.Itoa(n), strconv.Itoa(1000000-n)
		checkTalk(t, "wait "+text, "time "+text, "wait "+strconv.Itoa(1000001-n), "what", "wait 99999999999999999", "what", "wait "+rest, "time 1000000", "wait 1", "what")
	}
	for _, n := range []string{"1000001", "1000002", "2000000", "9999999", "10000000000000000", "99999999999999999", "4294967296", "4294967297"} {
		checkTalk(t, "wait "+n, "what", "wait 1", "time 1", "wait "+n, "what", "wait 0", "time 1")
	}
}

// TestGuardIsAtTheTimeOfTheInterpreter lets time go by, behind which the guard is asked or changed.
func TestGuardIsAtTheTimeOfTheInterpreter(t *testing.T) {
	start := []string{"offer 1/0:100#1 2/0:100#2", "in in", "offer 1/0:1#3", "fast", "wait 3", "time 3"}
	checkTalk(t, append(start, "peer 1", "tokens 30 bytes 100 points 17", "tokens", "tokens 200")...)
	checkTalk(t, append(start, "offer 1/0:31#4 1/0:20#5", "fast full", "peer 1", "tokens 30 bytes 100 points 37")...)
	checkTalk(t, append(start, "kick 1", "dropped 1/0:100#1", "peer 1", "tokens 30 bytes 0 points 0 banned 53")...)
	checkTalk(t, append(start, "serve 1", "served 1/0:100#1", "peer 1", "tokens 30 bytes 0 points 17", "wait 17", "time 20", "peer 1", "tokens 100 bytes 0 points 0")...)
	checkTalk(t, append(start, "change "+textOfSettings(withMemory(300, 150)), "ok", "peer 1", "tokens 30 bytes 100 points 17", "offer 1/0:30#6", "in")...)
	checkTalk(t, "wait 1000000", "time 1000000", "offer 1/0:100#1 1/0:1#2", "in fast", "serve 1", "served 1/0:100#1", "kick 1", "dropped", "change "+greatText, "ok", "peer 1", "tokens 0 bytes 0 points 0 banned 1000050", "tokens", "tokens 150")
}

func TestServeLine(t *testing.T) {
	list := madeOf([2]int{1, 30}, [2]int{2, 30}, [2]int{3, 30}, [2]int{4, 30})
	all := "served " + textsOf(list)
	for _, count := range []string{"4", "5", "64", "10000000000000000", "99999999999999999"} {
		checkTalk(t, offerOf(list...), "in in in in", "serve "+count, all, "serve "+count, "served", "lanes", "lanes 0 0 0 0")
	}
	for _, count := range []int{0, 1, 2, 3} {
		first, second := strings.TrimSuffix("served "+textsOf(list[:count]), " "), "served "+textsOf(list[count:])
		checkTalk(t, offerOf(list...), "in in in in", fmt.Sprint("serve ", count), first, "serve 4", second)
	}
	checkTalk(t, "serve 0", "served", "serve 1", "served", "serve 99999999999999999", "served", "report", noneReported)
	// The lane 0 comes first, and its weight is 2.
	checkTalk(t, "offer 1/3:10#1 1/2:10#2 1/1:10#3 1/0:10#4 2/0:10#5 3/0:10#6", "in in in in in in", "serve 9", "served 1/0:10#4 2/0:10#5 1/1:10#3 1/2:10#2 1/3:10#1 3/0:10#6")
}

// TestServeLineOfManyPackets serves more packets at once than a list with a text has.
func TestServeLineOfManyPackets(t *testing.T) {
	for _, count := range []int{63, 64, 65, 128, 1000, 1001} {
		text := greatScript(count) + "serve 5000\nlanes\n"
		output := checkAlike(t, text)
		if got := strings.Count(output, "#"); got != count || !strings.HasSuffix(output, "\nlanes 0 0 0 0\n") {
			t.Errorf("%d packets of %d are served: %q", got, count, output)
		}
	}
}

// smallPackets returns packets of one byte and of all peers and lanes, with short texts.
func smallPackets(count int) []impl.Packet {
	var list []impl.Packet
	for i := range count {
		list = append(list, impl.Packet{Peer: i % 8, Lane: i / 8 % 4, Size: 1, Id: i % 10})
	}
	return list
}

// greatScript returns lines that make a guard with much room, and let this many packets in.
func greatScript(count int) string {
	text := "new " + greatText + "\n"
	for list := range slices.Chunk(smallPackets(count), 64) {
		text += offerOf(list...) + "\n"
	}
	return text
}

func TestKickLine(t *testing.T) {
	start := []string{"offer 1/3:10#1 2/1:10#2 1/0:10#3 1/1:10#4 1/0:10#5", "in in in in in"}
	checkTalk(t, append(start, "kick 1", "dropped 1/0:10#3 1/0:10#5 1/1:10#4 1/3:10#1", "lanes", "lanes 0 1 0 0", "peer 1", "tokens 60 bytes 0 points 0 banned 50", "peer 2", "tokens 90 bytes 10 points 0", "tokens", "tokens 200",
		"serve 9", "served 2/1:10#2", "kick 2", "dropped", "report", "in 5\nbanned 0\nfast 0\nbusy 0\nfull 0\npeer 2 10\nend")...)
	for peer := range 8 {
		checkTalk(t, fmt.Sprint("kick ", peer), "dropped", fmt.Sprint("peer ", peer), "tokens 100 bytes 0 points 0 banned 50", fmt.Sprint("peer ", 7-peer), "tokens 100 bytes 0 points 0")
	}
	for _, n := range []string{"8", "9", "10", "17", "100", "10000000000000000", "99999999999999999", "4294967296"} {
		checkTalk(t, append(start, "kick "+n, "what", "peer "+n, "what", "lanes", "lanes 2 2 0 1")...)
	}
}

// TestPeersThatAreBanned has bans that are about to end, and such that double.
func TestPeersThatAreBanned(t *testing.T) {
	checkTalk(t, "kick 1", "dropped", "wait 49", "time 49", "peer 1", "tokens 100 bytes 0 points 0 banned 50", "offer 1/0:1#1 2/0:1#1", "banned in",
		"wait 1", "time 50", "peer 1", "tokens 100 bytes 0 points 0", "offer 1/0:1#1", "in", "kick 1", "dropped 1/0:1#1", "peer 1", "tokens 99 bytes 0 points 0 banned 150")
	checkTalk(t, "kick 7", "dropped", "kick 7", "dropped", "peer 7", "tokens 100 bytes 0 points 0 banned 100", "new "+exampleText, "ok", "peer 7", "tokens 100 bytes 0 points 0")
	talk := []string{"wait 1000000", "time 1000000"}
	for bans := range 13 {
		talk = append(talk, "kick 0", "dropped", "peer 0", fmt.Sprint("tokens 100 bytes 0 points 0 banned ", 1000000+50<<min(bans, 10)))
	}
	checkTalk(t, append(talk, "offer 0/0:1#1", "banned", "change "+smallText, "ok", "peer 0", "tokens 1 bytes 0 points 0 banned 1051200")...)
	// What waits already stays, and can be served.
	checkTalk(t, "offer 1/0:60#1 1/0:60#2 1/0:60#2 1/0:60#2 1/0:60#2 1/0:60#2", "in fast fast fast fast fast", "peer 1", "tokens 40 bytes 60 points 0 banned 50", "serve 1", "served 1/0:60#1", "fairness", "fairness 125")
}

func TestPeerLine(t *testing.T) {
	checkTalk(t, "offer 3/1:70#1 3/2:20#2 3/0:60#3", "in in fast", "peer 3", "tokens 10 bytes 90 points 20", "wait 1", "time 1", "peer 3", "tokens 20 bytes 90 points 19", "peer 3", "tokens 20 bytes 90 points 19",
		"serve 1", "served 3/1:70#1", "peer 3", "tokens 20 bytes 20 points 19", "wait 19", "time 20", "peer 3", "tokens 100 bytes 20 points 0")
	for peer := range 8 {
		lines := []string{fmt.Sprintf("offer %d/0:%d#1", peer, 10+peer), "in"}
		for other := range 8 {
			want := "tokens 100 bytes 0 points 0"
			if other == peer {
				want = fmt.Sprintf("tokens %d bytes %d points 0", 90-peer, 10+peer)
			}
			lines = append(lines, fmt.Sprint("peer ", other), want)
		}
		checkTalk(t, lines...)
	}
}

// TestLinesThatTellChangeNothing puts each of them between all lines of a script.
func TestLinesThatTellChangeNothing(t *testing.T) {
	tell := []string{"peer 0", "peer 1", "peer 2", "peer 7", "report", "settings", "lanes", "tokens", "fairness", "wait 0", "serve 0"}
	var lines []string
	for _, line := range strings.Split(strings.TrimSuffix(exampleScript, "\n"), "\n") {
		lines = append(lines, line)
		lines = append(lines, tell[len(line)%5:len(line)%5+5]...)
	}
	checkAlike(t, linesOf(lines...))
	for _, line := range tell {
		checkScript(t, line+"\n"+exampleScript, scriptByHand(line)+exampleOutput)
		twice := scriptByHand(exampleScript + line)
		checkScript(t, exampleScript+line+"\n"+line, twice+strings.TrimPrefix(twice, exampleOutput))
	}
}

func TestReportLine(t *testing.T) {
	checkTalk(t, "report", noneReported, "offer 1/0:60#1 7/0:20#2 0/0:1#3 1/1:90#4", "in in in fast", "report", "in 3\nbanned 0\nfast 1\nbusy 0\nfull 0\nend",
		"serve 1", "served 1/0:60#1", "report", "in 3\nbanned 0\nfast 1\nbusy 0\nfull 0\npeer 1 60\nend",
		"serve 2", "served 7/0:20#2 0/0:1#3", "report", "in 3\nbanned 0\nfast 1\nbusy 0\nfull 0\npeer 0 1\npeer 1 60\npeer 7 20\nend",
		"kick 1", "dropped", "offer 1/0:1#1 1/0:1#1", "banned banned", "change "+smallText, "ok", "wait 9", "time 9", "x", "what", "report", "in 3\nbanned 2\nfast 1\nbusy 0\nfull 0\npeer 0 1\npeer 1 60\npeer 7 20\nend")
}

// TestReportOfManyPackets has as many packets as are counted, and one more.
func TestReportOfManyPackets(t *testing.T) {
	for _, count := range []int{64, 999, 1000, 1001, 1002, 1500} {
		text := greatScript(count) + "serve 10\nserve 5000\nlanes\nreport\nfairness\n"
		output := checkAlike(t, text)
		want := "\nlanes 0 0 0 0\nend\nfairness 0\n"
		if count <= 1000 {
			want = fmt.Sprintf("\nlanes 0 0 0 0\nin %d\n", count)
		}
		if !strings.Contains(output, want) {
			t.Errorf("behind %d packets, the report is not %q: %q", count, want, output[len(output)-200:])
		}
		// A guard that is new has served none.
		checkScript(t, text+"new "+exampleText+"\nreport\nfairness", output+"ok\n"+noneReported+"\nfairness 1000\n")
	}
}

func TestSettingsLine(t *testing.T) {
	checkTalk(t, "settings", exampleText, "new "+greatText, "ok", "settings", greatText, "change "+smallText, "ok", "settings", smallText, "new x", "what", "settings", smallText, "offer 1/0:1#1", "in", "change "+exampleText, "ok", "wait 5", "time 5", "settings", exampleText)
}

func TestLanesLine(t *testing.T) {
	checkTalk(t, "lanes", "lanes 0 0 0 0", "offer 1/3:1#1 2/3:1#2 1/3:1#3 2/1:1#4 0/0:1#5 7/2:1#6 7/2:1#7", "in in in in in in in", "lanes", "lanes 1 1 2 3", "serve 3", "served 0/0:1#5 2/1:1#4 7/2:1#6", "lanes", "lanes 0 0 1 3", "kick 1", "dropped 1/3:1#1 1/3:1#3", "lanes", "lanes 0 0 1 1")
	for lane := range 4 {
		want := []int{0, 0, 0, 0}
		want[lane] = 12
		checkTalk(t, offerOf(slices.Repeat([]impl.Packet{{Peer: 4, Lane: lane, Size: 3, Id: 8}}, 12)...), strings.TrimSuffix(strings.Repeat("in ", 12), " "), "lanes", "lanes "+strings.Trim(fmt.Sprint(want), "[]"))
	}
}

func TestTokensLine(t *testing.T) {
	checkTalk(t, "tokens", "tokens 250", "offer 1/0:100#1 2/0:90#2", "in in", "tokens", "tokens 60", "wait 1", "time 1", "tokens", "tokens 110", "tokens", "tokens 110", "wait 2", "time 3", "tokens", "tokens 210", "wait 1", "time 4", "tokens", "tokens 250", "wait 999996", "time 1000000", "tokens", "tokens 250")
	checkTalk(t, "new "+smallText, "ok", "tokens", "tokens 1", "offer 1/0:1#1", "in", "tokens", "tokens 0", "wait 1000000", "time 1000000", "tokens", "tokens 0")
}

func TestFairnessLine(t *testing.T) {
	checkTalk(t, "fairness", "fairness 1000", "offer 1/0:60#1 2/0:30#2 3/0:10#3", "in in in", "fairness", "fairness 1000", "serve 1", "served 1/0:60#1", "fairness", "fairness 125", "serve 1", "served 2/0:30#2", "fairness", "fairness 225", "serve 1", "served 3/0:10#3", "fairness", "fairness 271")
	all := "offer 0/0:9#1 1/0:9#1 2/0:9#1 3/0:9#1 4/0:9#1 5/0:9#1 6/0:9#1 7/0:9#1"
	checkTalk(t, all, "in in in in in in in in", "serve 9", strings.Replace(all, "offer", "served", 1), "fairness", "fairness 1000", "new "+exampleText, "ok", all, "in in in in in in in in", "serve 4", "served 0/0:9#1 1/0:9#1 2/0:9#1 3/0:9#1", "fairness", "fairness 500", "kick 7", "dropped 7/0:9#1", "fairness", "fairness 500")
}

// TestLinesThatAreWrong puts each wrong line at some places of the example, where it changes nothing.
func TestLinesThatAreWrong(t *testing.T) {
	lines := strings.Split(strings.TrimSuffix(exampleScript, "\n"), "\n")
	for i, wrong := range wrongLines() {
		checkScript(t, wrong, "what\n")
		checkScript(t, wrong+"\n"+exampleScript, "what\n"+exampleOutput)
		checkScript(t, exampleScript+wrong, exampleOutput+"what\n")
		place := i % len(lines)
		first, second := linesOf(lines[:place]...), linesOf(lines[place:]...)
		begun := scriptByHand(first)
		checkScript(t, first+wrong+"\n"+second, begun+"what\n"+strings.TrimPrefix(exampleOutput, begun))
	}
}

// TestLinesWithOneOtherByte changes each line of the table at each place.
func TestLinesWithOneOtherByte(t *testing.T) {
	lines := []string{"new " + exampleText, "change " + exampleText, "offer 1/0:60#1 1/3:5#12", "wait 10", "serve 12", "kick 1", "peer 2", "report", "settings", "lanes", "tokens", "fairness"}
	for _, line := range lines {
		for place := range len(line) + 1 {
			for _, c := range []byte(" 0189/:#=,-+xn\n\r\t\x00\xff") {
				start := "offer 1/0:30#5 2/1:20#6\nwait 2\n"
				checkAlike(t, start+line[:place]+string([]byte{c})+line[place:]+"\nreport\npeer 1\n")
				if place < len(line) {
					checkAlike(t, start+line[:place]+string([]byte{c})+line[place+1:]+"\nreport\npeer 1\n")
				}
			}
			checkAlike(t, line[:place])
			checkAlike(t, line[place:])
			if place < len(line) {
				checkAlike(t, line[:place]+line[place+1:]+"\nsettings")
			}
		}
	}
}

func TestNumbersOfLines(t *testing.T) {
	start := []string{"offer 1/0:10#1 0/0:10#2", "in in", "wait 5", "time 5"}
	still := []string{"lanes", "lanes 2 0 0 0", "wait 0", "time 5"}
	for _, text := range wrongNumbers() {
		for _, word := range []string{"wait", "serve", "kick", "peer"} {
			checkTalk(t, slices.Concat(start, []string{word + " " + text, "what"}, still)...)
		}
	}
	// The greatest number has 17 digits.
	most := strings.Repeat("9", 17)
	checkTalk(t, slices.Concat(start, []string{"wait " + most, "what", "kick " + most, "what", "peer " + most, "what"}, still, []string{"serve " + most, "served 1/0:10#1 0/0:10#2"})...)
	checkTalk(t, slices.Concat(start, []string{"serve " + most + "9", "what", "serve 1" + strings.Repeat("0", 17), "what"}, still)...)
	for n := range 120 {
		text := strconv.Itoa(n)
		checkTalk(t, "wait "+text, "time "+text, "serve "+text, "served")
	}
}

// TestLongScripts has as many bytes as a script may have, and one more.
func TestLongScripts(t *testing.T) {
	for _, start := range []string{"", "wait 7\n", exampleScript, "x", "offer 1/0:60#1"} {
		for _, end := range []string{"", "\n", "\nwait 9", "\nlanes\n"} {
			rest := 20000 - len(start) - len(end)
			for _, fill := range []string{"\n", "x", " ", "\xff", "0"} {
				whole := start + strings.Repeat(fill, rest) + end
				if got := checkAlike(t, whole); strings.HasPrefix(got, "long") {
					t.Errorf("a script of %d bytes gives %q", len(whole), got)
				}
				checkScript(t, start+strings.Repeat(fill, rest+1)+end, "long\n")
				checkScript(t, start+strings.Repeat(fill, rest+20000)+end, "long\n")
			}
		}
	}
	checkScript(t, strings.Repeat("x", 20000), "what\n")
	checkScript(t, strings.Repeat("x", 20001), "long\n")
	// What counts is bytes.
	checkScript(t, strings.Repeat("é", 10000), "what\n")
	checkScript(t, strings.Repeat("é", 10000)+"\n", "long\n")
	checkScript(t, exampleScript+strings.Repeat("\n", 20000-len(exampleScript)), exampleOutput)
	checkScript(t, exampleScript+strings.Repeat("\n", 20001-len(exampleScript)), "long\n")
}

// TestManyLines has as many lines as a script may have, and more, also empty ones.
func TestManyLines(t *testing.T) {
	times := func(count int) string {
		want := ""
		for n := range count {
			want += fmt.Sprintf("time %d\n", n+1)
		}
		return want
	}
	for _, count := range []int{1, 199, 200} {
		checkScript(t, strings.Repeat("wait 1\n", count), times(count))
		checkScript(t, strings.Repeat("wait 1\n", count)+strings.Repeat("\n", 500), times(count))
	}
	for _, count := range []int{201, 202, 1000} {
		checkScript(t, strings.Repeat("wait 1\n", count), times(200)+"full\n")
		checkScript(t, strings.Repeat("wait 1\n", count-1)+"wait 1", times(200)+"full\n")
	}
	for empty := range 201 {
		text := strings.Repeat("wait 1\n", 200-empty) + strings.Repeat("\n", empty)
		checkScript(t, text, times(200-empty))
		checkScript(t, text+"wait 1", times(200-empty)+"full\n")
		checkScript(t, text+"\n\n\n\nx\n", times(200-empty)+"full\n")
		checkScript(t, strings.Repeat("\n", empty)+strings.Repeat("wait 1\n", 201-empty), times(200-empty)+"full\n")
		if empty > 0 {
			checkScript(t, strings.Repeat("\n", empty)+strings.Repeat("wait 1\n", 200-empty)+"\n", times(200-empty))
			checkScript(t, text[:len(text)-1]+"wait 1", times(201-empty))
		}
	}
	for _, wrong := range []string{"x", " ", "report ", "\r", "wait 01"} {
		checkScript(t, strings.Repeat("\n", 200)+wrong, "full\n")
		checkScript(t, strings.Repeat("\n", 199)+wrong, "what\n")
		checkScript(t, strings.Repeat("\n", 199)+wrong+"\n"+wrong+"\n"+wrong, "what\nfull\n")
		checkScript(t, strings.Repeat(wrong+"\n", 201), strings.Repeat("what\n", 200)+"full\n")
	}
}

// muchOutput returns a script of many lines and packets, and the length of its output, which is a little less than the greatest one.
func muchOutput() (string, int) {
	line := offerOf(smallPackets(64)...) + "\n"
	text := greatScript(960) + "serve 5000\n" + strings.Repeat("report\n", 120) + strings.Repeat(line, 18) + "serve 5000\n" + strings.Repeat("settings\n", 10)
	return text, len(scriptByHand(text))
}

// linesOfOutput returns lines of which the output has this many bytes.
func linesOfOutput(length int) string {
	text := ""
	for ; length%3 != 0 || length > 192; length -= len("what\n") {
		text += "x\n"
	}
	// Each packet that is let in gives three bytes.
	return text + offerOf(smallPackets(length/3)...) + "\n"
}

// TestMuchOutput has as many bytes of output before a line as there may be, and one more.
func TestMuchOutput(t *testing.T) {
	start, begun := muchOutput()
	for _, length := range []int{39987, 39993, 39994, 39999, 40000, 40001, 40002, 40003, 40010} {
		text := start + linesOfOutput(length-begun)
		output := checkAlike(t, text)
		if lines := strings.Count(text, "\n"); len(output) != length || len(text) > 19900 || lines > 190 || strings.Contains(output, "\nfull\n") {
			t.Fatalf("the output of %d bytes and %d lines has %d bytes", len(text), lines, len(output))
		}
		want := output
		for _, answer := range []string{"time 9\n", "what\n", "time 10\n"} {
			if len(want) > 40000 {
				want += "full\n"
				break
			}
			want += answer
		}
		for end, behind := range map[string]string{"wait 9\nx\nwait 1": want, "\n\nwait 9\n\nx\nwait 1\n\n": want, "\n\n\n": output} {
			if got := impl.RunScript(text + end); got != behind {
				t.Errorf("behind %d bytes, %q gives %q, want %q", length, end, strings.TrimPrefix(got, output), strings.TrimPrefix(behind, output))
			}
		}
	}
}

// TestMuchOutputOfOneLine begins the last line below the limit, and ends far above it.
func TestMuchOutputOfOneLine(t *testing.T) {
	start, begun := muchOutput()
	text := start + strings.Repeat("offer 0/0:1#0\n", 2) + linesOfOutput(40000-begun-6)
	output := checkAlike(t, text+"serve 5000\n")
	if len(output) < 40500 || strings.Contains(output, "\nfull\n") {
		t.Errorf("the output has %d bytes: %q", len(output), output[39000:])
	}
	for _, end := range []string{"x", "serve 1\n", "\n\n\nreport\nx\nx"} {
		if got := impl.RunScript(text + "serve 5000\n" + end); got != output+"full\n" {
			t.Errorf("%q gives %q", end, strings.TrimPrefix(got, output))
		}
	}
}

// checkPrefixes expects that the output begins with that of each prefix that ends at a line break, and returns how many prefixes there are.
func checkPrefixes(t *testing.T, text string) int {
	t.Helper()
	output, count := impl.RunScript(text), 0
	for place := range len(text) {
		if text[place] != '\n' {
			continue
		}
		count++
		// A line break may belong to the prefix, or not.
		for _, prefix := range []string{text[:place], text[:place+1]} {
			if got := impl.RunScript(prefix); !strings.HasPrefix(output, got) || strings.HasPrefix(got, "long") {
				t.Fatalf("RunScript(%q) = %q, and for a prefix of %d bytes %q", text, output, len(prefix), got)
			}
		}
	}
	return count
}

func TestOutputBeginsWithThatOfPrefixes(t *testing.T) {
	scripts := []string{exampleScript}
	for i, text := range mixedScripts() {
		// All of them would take too long.
		if i%11 == 4 {
			scripts = append(scripts, text)
		}
	}
	for i, text := range scripts {
		if want := strings.Count(text, "\n"); checkPrefixes(t, text) != want {
			t.Errorf("the script %d has %d line breaks", i, want)
		}
	}
	checkPrefixes(t, strings.Repeat("wait 1\n\n", 150))
	checkPrefixes(t, strings.Repeat("\n", 201)+"x\nx\n\nx\n")
	checkPrefixes(t, strings.Repeat("x", 19998)+"\nx")
	checkPrefixes(t, strings.Repeat("report \nreport\nlanes \n", 80))
}

// TestMuchOutputBeginsWithThatOfPrefixes looks at the prefixes about where the output is full.
func TestMuchOutputBeginsWithThatOfPrefixes(t *testing.T) {
	start, begun := muchOutput()
	for _, length := range []int{39998, 40000, 40001} {
		text := start + linesOfOutput(length-begun) + "\nx\nwait 5\n\nlanes\nx"
		output := impl.RunScript(text)
		for place := len(start); place < len(text); place++ {
			if text[place] != '\n' {
				continue
			}
			if got := impl.RunScript(text[:place+1]); !strings.HasPrefix(output, got) {
				t.Errorf("a prefix of %d bytes of %d has another output", place+1, len(text))
			}
		}
	}
}

// TestOutputGrowsByLines expects that the lines of a prefix give all but the output of the last line.
func TestOutputGrowsByLines(t *testing.T) {
	for i, text := range mixedScripts()[:120] {
		whole := impl.RunScript(text)
		for _, line := range []string{"x", "report ", "wait 01"} {
			if got := impl.RunScript(text + "\n" + line); got != whole+"what\n" {
				t.Errorf("the script %d and %q give %q, want %q", i, line, got, whole+"what\n")
			}
		}
		if whole != "" && !strings.HasSuffix(whole, "\n") {
			t.Errorf("the output of the script %d ends with %q", i, whole[len(whole)-1:])
		}
	}
}

// TestMixedScripts compares scripts of all kinds of lines with ones that are executed by hand, and counts the answers.
func TestMixedScripts(t *testing.T) {
	counts := map[string]int{}
	for _, text := range mixedScripts() {
		for _, line := range strings.Split(checkAlike(t, text), "\n") {
			word, _, _ := strings.Cut(line, " ")
			counts[word]++
			if strings.HasPrefix(line, "tokens ") && strings.Contains(line, " banned ") {
				counts["of banned peers"]++
			}
			for _, decision := range []string{"banned", "fast", "busy", "full"} {
				if strings.HasPrefix(line, "in ") && strings.Contains(line, " "+decision) {
					counts["in, and "+decision]++
				}
			}
		}
	}
	for _, word := range []string{"ok", "what", "refused", "in", "banned", "fast", "busy", "full", "time", "served", "dropped", "tokens", "of banned peers", "end", "lanes", "fairness", "in, and banned", "in, and fast", "in, and busy", "in, and full"} {
		if counts[word] < 50 {
			t.Errorf("there are %d answers of %q", counts[word], word)
		}
	}
}

// TestScriptsOfAnyBytes has scripts that are no lines at all.
func TestScriptsOfAnyBytes(t *testing.T) {
	parts := []string{"\n", " ", "offer ", "wait ", "serve ", "kick ", "peer ", "1/0:5#1", "2/3:90#7", "7", "12", "report", "lanes", "new " + exampleText, "change " + smallText, "x", "\x00", "\xff", "\r\n", "#", "-1"}
	for seed := range 400 {
		text := ""
		for i, n := range numberRow(seed, 5+seed%120, 30000) {
			text += parts[n%len(parts)]
			if (n+i)%3 == 0 {
				text += "\n"
			}
			if n%11 == 0 {
				text += string([]byte{byte(n / 11)})
			}
		}
		checkAlike(t, text)
	}
}

// TestScriptsKeepNothing runs scripts twice, with others in between.
func TestScriptsKeepNothing(t *testing.T) {
	scripts := append(mixedScripts(), exampleScript, "report\nlanes\npeer 1\ntokens\nfairness\nsettings\nwait 0", strings.Repeat("x", 20001), "")
	var before []string
	for _, text := range scripts {
		before = append(before, impl.RunScript(text))
	}
	for i, text := range slices.Backward(scripts) {
		if second := impl.RunScript(text); second != before[i] {
			t.Errorf("RunScript(%q) = %q, and then %q", text, before[i], second)
		}
	}
}

// TestScriptsAtOneTime runs scripts side by side.
func TestScriptsAtOneTime(t *testing.T) {
	var wait sync.WaitGroup
	for i, text := range append(mixedScripts()[:40], exampleScript) {
		want := impl.RunScript(text)
		for range 3 {
			wait.Go(func() {
				if got := impl.RunScript(text); got != want {
					t.Errorf("the script %d gives %q, want %q", i, got, want)
				}
			})
		}
	}
	wait.Wait()
}
