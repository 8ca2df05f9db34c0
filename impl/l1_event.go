package impl

import (
	"slices"
	"strconv"
	"strings"
)

const MaxWord = 40
const MaxTime = 1000000000000
const MaxRefs = 10
const MaxGrants = 50
const MaxLevel = 1000000

// maxDigits lets a text hold numbers beyond MaxTime and MaxLevel: those have the form, and it is EventOk that refuses them.
const maxDigits = 13

const textPieces = 8

const (
	typeCreate = "create"
	typeMember = "member"
	typeRules  = "join_rules"
	typePower  = "power"
)

// Grant is described in the document.
type Grant struct {
	Name  string
	Level int
}

// Event is described in the document.
type Event struct {
	Id      string
	Sender  string
	Type    string
	IsState bool
	Key     string
	Time    int
	Prev    []string
	Auth    []string
	Value   string
	Grants  []Grant
}

// EventOk says whether an event is well formed.
func EventOk(e Event) int {
	switch {
	case !allWords(e.Id, e.Sender, e.Type):
		return 1
	case !keyOk(e.IsState, e.Key):
		return 2
	case e.Time < 0 || e.Time > MaxTime:
		return 3
	case !refsOk(e.Prev, e.Id) || !refsOk(e.Auth, e.Id):
		return 4
	case !contentOf(e).fits():
		return 5
	}
	return 0
}

// ParseEvent reads the text of an event.
func ParseEvent(line string) (Event, int) {
	e, ok := readForm(line)
	if !ok {
		return Event{}, 1
	}
	if code := EventOk(e); code != 0 {
		return Event{}, code + 1
	}
	return e, 0
}

// EventText writes an event.
func EventText(e Event) (string, bool) {
	if EventOk(e) != 0 {
		return "", false
	}
	pieces := []string{
		e.Id,
		e.Sender,
		e.Type,
		keyText(e.IsState, e.Key),
		strconv.Itoa(e.Time),
		refsText(e.Prev),
		refsText(e.Auth),
		valueText(e.Value, e.Grants),
	}
	return strings.Join(pieces, " "), true
}

func allWords(texts ...string) bool {
	return countWords(texts) == len(texts)
}

func countWords(texts []string) int {
	words := 0
nextWord:
	for _, text := range texts {
		if text == "" || len(text) > MaxWord {
			continue
		}
		for i := 0; i < len(text); i++ {
			if !inWord(text[i]) {
				continue nextWord
			}
		}
		words++
	}
	return words
}

func inWord(b byte) bool {
	switch b {
	case '_', '.', '@', '$', '/', '+':
		return true
	}
	return 'A' <= b && b <= 'Z' || 'a' <= b && b <= 'z' || isDigit(b)
}

func isDigit(b byte) bool {
	return '0' <= b && b <= '9'
}

func keyOk(isState bool, key string) bool {
	return key == "" || isState && allWords(key)
}

func refsOk(refs []string, id string) bool {
	// The length comes first, so that a list of any length is not held against itself.
	if len(refs) > MaxRefs || !allWords(refs...) {
		return false
	}
	for i, ref := range refs {
		if ref == id || slices.Contains(refs[:i], ref) {
			return false
		}
	}
	return true
}

// header is what the kinds of content have in common.
type header struct {
	isState bool
	key     string
	value   string
	grants  []Grant
}

// forRoom is for the types of which a room has one state event, not one for each key.
func (h header) forRoom() bool {
	return h.isState && h.key == ""
}

func (h header) hasGrants() bool {
	return len(h.grants) > 0
}

type content interface {
	fits() bool
}

type createContent struct {
	header
	refs int
}

type memberContent struct {
	header
}

type rulesContent struct {
	header
}

type powerContent struct {
	header
}

type otherContent struct {
	header
}

func contentOf(e Event) content {
	h := header{isState: e.IsState, key: e.Key, value: e.Value, grants: e.Grants}
	switch e.Type {
	case typeCreate:
		return createContent{header: h, refs: len(e.Prev) + len(e.Auth)}
	case typeMember:
		return memberContent{header: h}
	case typeRules:
		return rulesContent{header: h}
	case typePower:
		return powerContent{header: h}
	}
	return otherContent{header: h}
}

func (c createContent) fits() bool {
	return c.forRoom() && c.refs == 0 && c.value == "" && !c.hasGrants()
}

func (c memberContent) fits() bool {
	switch c.value {
	case "join", "invite", "leave", "ban":
		return c.isState && c.key != "" && !c.hasGrants()
	}
	return false
}

func (c rulesContent) fits() bool {
	switch c.value {
	case "public", "invite":
		return c.forRoom() && !c.hasGrants()
	}
	return false
}

func (c powerContent) fits() bool {
	return c.forRoom() && c.value == "" && grantsOk(c.grants)
}

func (c otherContent) fits() bool {
	return (c.value == "" || allWords(c.value)) && !c.hasGrants()
}

func grantsOk(grants []Grant) bool {
	if len(grants) > MaxGrants {
		return false
	}
	for i, g := range grants {
		if !allWords(bareName(g.Name)) || g.Level < -MaxLevel || g.Level > MaxLevel {
			return false
		}
		if i > 0 && grants[i-1].Name >= g.Name {
			return false
		}
	}
	return true
}

// bareName takes off one mark only: a name with two marks is no name.
func bareName(name string) string {
	if name != "" && (name[0] == '*' || name[0] == '#') {
		return name[1:]
	}
	return name
}

func keyText(isState bool, key string) string {
	if !isState {
		return "-"
	}
	return "=" + key
}

func refsText(refs []string) string {
	if len(refs) == 0 {
		return "-"
	}
	return strings.Join(refs, ",")
}

func valueText(value string, grants []Grant) string {
	if len(grants) == 0 && value == "" {
		return "-"
	}
	if len(grants) == 0 {
		return value
	}
	var pieces []string
	for _, g := range grants {
		pieces = append(pieces, g.Name+":"+strconv.Itoa(g.Level))
	}
	return strings.Join(pieces, ",")
}

func readForm(line string) (Event, bool) {
	pieces := strings.Split(line, " ")
	if len(pieces) != textPieces || slices.Contains(pieces, "") {
		return Event{}, false
	}
	isState, key, keyIs := readKey(pieces[3])
	time, timeIs := readDigits(pieces[4])
	value, grants, valueIs := readValue(pieces[7])
	if !keyIs || !timeIs || !valueIs {
		return Event{}, false
	}
	return Event{
		Id:      pieces[0],
		Sender:  pieces[1],
		Type:    pieces[2],
		IsState: isState,
		Key:     key,
		Time:    time,
		Prev:    readRefs(pieces[5]),
		Auth:    readRefs(pieces[6]),
		Value:   value,
		Grants:  grants,
	}, true
}

func readKey(piece string) (bool, string, bool) {
	if piece == "-" {
		return false, "", true
	}
	key, isState := strings.CutPrefix(piece, "=")
	if !isState {
		return false, "", false
	}
	return true, key, true
}

func readRefs(piece string) []string {
	if piece == "-" {
		return nil
	}
	return strings.Split(piece, ",")
}

func readValue(piece string) (string, []Grant, bool) {
	if piece == "-" {
		return "", nil, true
	}
	if !strings.Contains(piece, ":") {
		return piece, nil, true
	}
	var grants []Grant
	for _, text := range strings.Split(piece, ",") {
		name, level, parted := strings.Cut(text, ":")
		n, ok := readLevel(level)
		if !parted || !ok {
			return "", nil, false
		}
		grants = append(grants, Grant{Name: name, Level: n})
	}
	return "", grants, true
}

func readLevel(text string) (int, bool) {
	digits, below := strings.CutPrefix(text, "-")
	n, ok := readDigits(digits)
	if !below {
		return n, ok
	}
	// A second way to write 0 would give one event two texts.
	return -n, ok && n != 0
}

func readDigits(text string) (int, bool) {
	if text == "" || len(text) > maxDigits || text[0] == '0' && text != "0" {
		return 0, false
	}
	n := 0
	for i := 0; i < len(text); i++ {
		if !isDigit(text[i]) {
			return 0, false
		}
		n = n*10 + int(text[i]-'0')
	}
	return n, true
}
