package tests

import (
	"fmt"
	"math/rand"
	"slices"
	"strings"
	"testing"

	"loop.example/milldam/impl"
)

// shape is a plan by its texts: its head, and what it is of.
type shape struct {
	head string
	kids []shape
}

func shapeOf(p impl.Plan) shape {
	s := shape{head: headText(p)}
	for _, kid := range p.Kids {
		s.kids = append(s.kids, shapeOf(kid))
	}
	return s
}

func (s shape) text() string {
	text := s.head
	for _, kid := range s.kids {
		text += " " + kid.text()
	}
	return text
}

// is says whether a head begins with that word.
func (s shape) is(word string) bool { return strings.Split(s.head, " ")[0] == word }

// size is how many parts there are, and how many of them around one another.
func (s shape) size() (many int, deep int) {
	for _, kid := range s.kids {
		kidMany, kidDeep := kid.size()
		many, deep = many+kidMany, max(deep, kidDeep)
	}
	return many + 1, deep + 1
}

func (s shape) once() bool {
	switch {
	case s.is("where"):
		return s.kids[0].once()
	case s.is("join"):
		return s.kids[0].once() && s.kids[1].once()
	}
	return s.is("once") || s.is("group")
}

// slim and push are what the document says of Slim and SlimPush, said of texts.
func (s shape) slim() shape {
	short := shape{head: s.head}
	for _, kid := range s.kids {
		short.kids = append(short.kids, kid.slim())
	}
	if !s.is("once") && !s.is("where") {
		return short
	}
	kid := short.kids[0]
	switch {
	case s.is("once") && kid.once():
		return kid
	case s.is("once") && kid.is("both") && kid.kids[0].text() == kid.kids[1].text():
		return shape{"once", kid.kids[:1]}.slim()
	case s.is("where") && kid.head == s.head:
		return kid
	}
	return short
}

func (s shape) push() shape {
	early := shape{head: s.head}
	for _, kid := range s.kids {
		early.kids = append(early.kids, kid.push())
	}
	if s.is("where") && (s.kids[0].is("both") || s.kids[0].is("once")) {
		early = shape{head: s.kids[0].head}
		for _, kid := range s.kids[0].kids {
			early.kids = append(early.kids, shape{s.head, []shape{kid}}.push())
		}
	}
	if many, deep := early.size(); many > 10 || deep > 6 {
		return s
	}
	return early
}

// wantSlim holds Slim, SlimPush and SlimOnce against what is said of texts, and asks what holds of every plan.
func wantSlim(t *testing.T, p impl.Plan) {
	t.Helper()
	short, early, once := impl.Slim(p), impl.SlimPush(p), impl.SlimOnce(p)
	if !writableByForm(p) {
		if planShown(short) != planShown(impl.Plan{}) || planShown(early) != planShown(impl.Plan{}) || once {
			t.Fatalf("%v can not be written: %v, %v, %v", p, short, early, once)
		}
		return
	}
	s := shapeOf(p)
	if !writableByForm(short) || !writableByForm(early) {
		t.Fatalf("%s: %v and %v can not both be written", s.text(), short, early)
	}
	if got, want := textByForm(short), s.slim().text(); got != want {
		t.Fatalf("Slim of %s is %s; want %s", s.text(), got, want)
	}
	if got, want := textByForm(early), s.push().text(); got != want {
		t.Fatalf("SlimPush of %s is %s; want %s", s.text(), got, want)
	}
	if once != s.once() {
		t.Fatalf("SlimOnce of %s is %v", s.text(), once)
	}
	if again := impl.Slim(short); !samePlans(again, short) {
		t.Fatalf("Slim of %s is %v, and of that %v", s.text(), short, again)
	}
	for _, wides := range [][]int{{1, 1, 1}, {2, 2}, {1, 2, 3}} {
		if want := impl.PlanWide(p, wides); impl.PlanWide(short, wides) != want || impl.PlanWide(early, wides) != want {
			t.Fatalf("%s over %v is %d wide; %v and %v are not", s.text(), wides, want, short, early)
		}
	}
}

// wantSlimTexts asks of the plan of each text what call makes of it.
func wantSlimTexts(t *testing.T, name string, call func(p impl.Plan) impl.Plan, texts map[string]string) {
	t.Helper()
	for text, want := range texts {
		p := planRead(t, text)
		if got := impl.PlanText(call(p)); got != want {
			t.Errorf("%s of %q is %q; want %q", name, text, got, want)
		}
		wantSlim(t, p)
	}
}

func TestSlimOnce(t *testing.T) {
	for text, want := range map[string]bool{
		"t0": false, "t2": false, "map c0 t0": false, "both t0 t1": false, "where c0<c1 t0": false, "join 0 0 t0 t1": false,
		"once t0": true, "once once t0": true, "once map c0 t0": true, "once both t0 t1": true,
		"group - count 0 t0": true, "group 0,1 sum 2 t0": true, "group 0 least 1 both t0 t1": true,
		"where c0<c1 once t0": true, "where c0<c1 group 0 most 0 t0": true, "where c0<c1 where c0=c1 once t0": true, "where c0<c1 map c0,c1 once t0": false, "where c0<c1 both once t0 once t0": false,
		"join 0 0 once t0 once t1": true, "join 0 0 once t0 t1": false, "join 0 0 t0 once t1": false, "join 0 0 once t0 group 0 count 0 t1": true,
		"join 0 0 where c0<c1 once t0 join 1 1 once t1 group - sum 0 t2": true, "join 0 0 once t0 join 1 1 once t1 t2": false, "where c0<c1 join 0 0 once t0 once t1": true, "where c0<c1 join 0 0 once t0 map c0 once t1": false,
		"map c0 once t0": false, "map c0,c1 group 0 count 0 t0": false, "both once t0 once t1": false, "both group 0 count 0 t0 once t1": false,
		"where c0<c1 where c0<c1 where c0<c1 where c0<c1 once t0": true, "where c0<c1 where c0<c1 where c0<c1 where c0<c1 where c0<c1 t0": false,
	} {
		p := planRead(t, text)
		if got := impl.SlimOnce(p); got != want {
			t.Errorf("SlimOnce of %q is %v", text, got)
		}
		wantSlim(t, p)
	}
}

func TestSlimByNoRule(t *testing.T) {
	for _, text := range []string{
		"t0", "t1", "once t0", "where c0<c1 t0", "map c0 t0", "join 0 0 t0 t1", "both t0 t0", "group - count 0 t0", "group 0 sum 1 group 0 sum 1 t0", "map c0 map c0 t0", "both both t0 t0 both t0 t0",
		"once map c0 once t0", "once both t0 t1", "once both t0 where c0<c1 t0", "once both once t0 t0", "once both group 0 count 0 t0 group 0 sum 0 t0", "once both map c0 t0 map c1 t0",
		"once join 0 0 t0 t1", "once join 0 0 once t0 t1", "once join 0 0 t0 once t1", "once where c0<c1 t0", "once where c0<c1 both t0 t0",
		"where c0<c1 where c0=c1 t0", "where c0<c1 where !c0<c1 t0", "where c0<c1 where c1<c0 t0", "where c0<c1 where c0<#1 t0", "where c0<c1 where c0=c1 where c0<c1 t0", "where c0<c1 map c0,c1 where c0<c1 t0", "where c0<c1 once where c0<c1 t0",
		"where c0+c1<#5 where c1+c0<#5 t0", "where c0<#5 where c0<#-5 t0", "where c0<c1 both where c0<c1 t0 where c0<c1 t0", "join 0 0 once t0 once t0",
	} {
		wantSlimTexts(t, "Slim", impl.Slim, map[string]string{text: text})
	}
}

func TestSlimByEachRule(t *testing.T) {
	wantSlimTexts(t, "Slim", impl.Slim, map[string]string{
		"once once t0":                                     "once t0",
		"once group 0 count 0 t0":                          "group 0 count 0 t0",
		"once where c0<c1 once t0":                         "where c0<c1 once t0",
		"once where c0<c1 group 0 most 1 t0":               "where c0<c1 group 0 most 1 t0",
		"once where c0<c1 where c0=c1 once t0":             "where c0<c1 where c0=c1 once t0",
		"once join 0 1 once t0 once t1":                    "join 0 1 once t0 once t1",
		"once join 0 0 group 0 sum 1 t0 once t1":           "join 0 0 group 0 sum 1 t0 once t1",
		"once where c0<c1 join 0 0 once t0 once t1":        "where c0<c1 join 0 0 once t0 once t1",
		"once both t0 t0":                                  "once t0",
		"once both t2 t2":                                  "once t2",
		"once both map c0,c1 t0 map c0,c1 t0":              "once map c0,c1 t0",
		"once both join 0 0 t0 t1 join 0 0 t0 t1":          "once join 0 0 t0 t1",
		"once both both t0 t1 both t0 t1":                  "once both t0 t1",
		"where c0<c1 where c0<c1 t0":                       "where c0<c1 t0",
		"where !c0=#-3 where !c0=#-3 map c0 t1":            "where !c0=#-3 map c0 t1",
		"where c0<c1 where c0<c1 where c0=c1 t0":           "where c0<c1 where c0=c1 t0",
		"where c0=c1 where c0<c1 where c0<c1 t0":           "where c0=c1 where c0<c1 t0",
		"where c0<c1 where c0<c1 where c0<c1 t0":           "where c0<c1 t0",
		"where c0<c1 where c0<c1 where c0<c1 once t0":      "where c0<c1 once t0",
		"once once once once once t0":                      "once t0",
		"join 0 0 once once t0 where c0<c1 where c0<c1 t1": "join 0 0 once t0 where c0<c1 t1",
		"map c0 group 0 sum 1 both t0 once both t1 t1":     "map c0 group 0 sum 1 both t0 once t1",
	})
}

// TestSlimBehindAnotherRule is of rules that apply only because a kid is shorter, or to what a rule made.
func TestSlimBehindAnotherRule(t *testing.T) {
	wantSlimTexts(t, "Slim", impl.Slim, map[string]string{
		// The two are the same only when they are shorter.
		"once both once t0 once once t0":                                  "once t0",
		"once both once once t0 once t0":                                  "once t0",
		"once both where c0<c1 t0 where c0<c1 where c0<c1 t0":             "once where c0<c1 t0",
		"once both map c0 once both t0 t0 map c0 once t0":                 "once map c0 once t0",
		"once both where c0<c1 where c0<c1 t0 where c0<c1 where c0=c1 t0": "once both where c0<c1 t0 where c0<c1 where c0=c1 t0",
		"once both once t0 once both t0 once t0":                          "once both once t0 once both t0 once t0",
		"once both once both t0 t0 once once t0":                          "once t0",
		"both once both t0 t0 once t0":                                    "both once t0 once t0",
		"once both both t0 t0 both t0 t0":                                 "once t0",
		"once both both t0 map c0 t0 both t0 map c0 t0":                   "once both t0 map c0 t0",
		"once both both both t0 t0 both t0 t0 t1":                         "once both both both t0 t0 both t0 t0 t1",
		// What a rule makes is shorter still.
		"once both once t0 once t0":                         "once t0",
		"once both group 0 sum 1 t0 group 0 sum 1 t0":       "group 0 sum 1 t0",
		"once both where c0<c1 once t0 where c0<c1 once t0": "where c0<c1 once t0",
		// A kid is each row once only when it is shorter, or stays so.
		"once where c0<c1 once once t0":                                "where c0<c1 once t0",
		"once once both t0 t0":                                         "once t0",
		"once once both t0 t1":                                         "once both t0 t1",
		"once join 0 0 once both t0 t0 once once t1":                   "join 0 0 once t0 once t1",
		"once where c0<c1 once both group 0 sum 1 t0 group 0 sum 1 t0": "where c0<c1 group 0 sum 1 t0",
		// The same test comes together only when the PlanOnce between is gone, which in the first of these is not.
		"where c0<c1 where c0<c1 once once where c0<c1 t0":              "where c0<c1 once where c0<c1 t0",
		"where c0<c1 once both where c0<c1 once t0 where c0<c1 once t0": "where c0<c1 once t0",
		"where c0<c1 once where c0<c1 once t0":                          "where c0<c1 once t0",
		"where c0<c1 once where c0<c1 group 0 sum 1 t0":                 "where c0<c1 group 0 sum 1 t0",
		"where c0=c1 once where c0<c1 once t0":                          "where c0=c1 where c0<c1 once t0",
	})
}

func TestSlimPushes(t *testing.T) {
	wantSlimTexts(t, "SlimPush", impl.SlimPush, map[string]string{
		// Nothing to be asked early.
		"t0":                           "t0",
		"once t0":                      "once t0",
		"both t0 t1":                   "both t0 t1",
		"join 0 0 t0 t1":               "join 0 0 t0 t1",
		"map c0 t0":                    "map c0 t0",
		"group 0 sum 1 t0":             "group 0 sum 1 t0",
		"where c0<c1 t0":               "where c0<c1 t0",
		"where c0<c1 map c1,c0 t0":     "where c0<c1 map c1,c0 t0",
		"where c0<c1 join 0 0 t0 t1":   "where c0<c1 join 0 0 t0 t1",
		"where c0<c1 group 0 sum 1 t0": "where c0<c1 group 0 sum 1 t0",
		"where c0<c1 where c0=c1 t0":   "where c0<c1 where c0=c1 t0",
		"once where c0<c1 t0":          "once where c0<c1 t0",
		"both where c0<c1 t0 t1":       "both where c0<c1 t0 t1",
		// Around each of the two, and around both in either order.
		"where c0<c1 both t0 t1":           "both where c0<c1 t0 where c0<c1 t1",
		"where c0<c1 both t1 t0":           "both where c0<c1 t1 where c0<c1 t0",
		"where !c0=#-7 once t0":            "once where !c0=#-7 t0",
		"where c0<c1 once once t0":         "once once where c0<c1 t0",
		"where c0<c1 both both t0 t1 t2":   "both both where c0<c1 t0 where c0<c1 t1 where c0<c1 t2",
		"where c0<c1 both t0 both t1 t2":   "both where c0<c1 t0 both where c0<c1 t1 where c0<c1 t2",
		"where c0<c1 both once t0 t1":      "both once where c0<c1 t0 where c0<c1 t1",
		"where c0<c1 both once t0 once t1": "both once where c0<c1 t0 once where c0<c1 t1",
		"where c0<c1 once both t0 t1":      "once both where c0<c1 t0 where c0<c1 t1",
		"where c0<c1 once both t0 once t1": "once both where c0<c1 t0 once where c0<c1 t1",
		// It stops where it must.
		"where c0<c1 both map c1,c0 t0 join 0 0 t1 t2":      "both where c0<c1 map c1,c0 t0 where c0<c1 join 0 0 t1 t2",
		"where c0<c1 once group 0 sum 1 both t0 t1":         "once where c0<c1 group 0 sum 1 both t0 t1",
		"where c0<c1 once map c1,c0 where c0<c1 both t0 t1": "once where c0<c1 map c1,c0 both where c0<c1 t0 where c0<c1 t1",
		"where c0<c1 both where c0=c1 t0 t1":                "both where c0<c1 where c0=c1 t0 where c0<c1 t1",
		// A PlanWhere around another one: the inner one is asked early, the outer one stays where it is.
		"where c0<c1 where c0=c1 both t0 t1":          "where c0<c1 both where c0=c1 t0 where c0=c1 t1",
		"where c0<c1 where c0=c1 once t0":             "where c0<c1 once where c0=c1 t0",
		"where c0<c1 where c0<c1 both t0 t1":          "where c0<c1 both where c0<c1 t0 where c0<c1 t1",
		"where c0<c1 once where c0=c1 once t0":        "once where c0<c1 once where c0=c1 t0",
		"where c0<c1 both where c0=c1 once t0 t1":     "both where c0<c1 once where c0=c1 t0 where c0<c1 t1",
		"where c0<c1 where c0=c1 where c0<#1 once t0": "where c0<c1 where c0=c1 once where c0<#1 t0",
		// Deep within.
		"map c0 where c0<c1 both t0 t1":                       "map c0 both where c0<c1 t0 where c0<c1 t1",
		"group 0 sum 1 where c0<c1 once t0":                   "group 0 sum 1 once where c0<c1 t0",
		"once where c0<c1 once t0":                            "once once where c0<c1 t0",
		"join 0 1 where c0<c1 once t0 where c0=c1 both t1 t2": "join 0 1 once where c0<c1 t0 both where c0=c1 t1 where c0=c1 t2",
		"both t0 both t1 where c0<c1 once t2":                 "both t0 both t1 once where c0<c1 t2",
		"both once map c0,c0 where c0<c1 once t0 t1":          "both once map c0,c0 once where c0<c1 t0 t1",
		"where c0<c1 join 0 0 where c0=c1 once t0 t1":         "where c0<c1 join 0 0 once where c0=c1 t0 t1",
		"where c0<c1 group 0 sum 1 where c0=c1 both t0 t1":    "where c0<c1 group 0 sum 1 both where c0=c1 t0 where c0=c1 t1",
	})
}

// TestSlimPushSize meets PlanSize just so, and with one too many, where the plan is as it was.
func TestSlimPushSize(t *testing.T) {
	for _, c := range []struct {
		text string
		many int
		want string
		then int
	}{
		{"where c0<c1 both map c0,c1 map c0,c1 t0 map c0,c1 map c0,c1 map c0,c1 t1", 9, "both where c0<c1 map c0,c1 map c0,c1 t0 where c0<c1 map c0,c1 map c0,c1 map c0,c1 t1", 10},
		{"where c0<c1 both map c0,c1 map c0,c1 map c0,c1 t0 map c0,c1 map c0,c1 map c0,c1 t1", 10, "as it was", 10},
		{"where c0<c1 both both t0 t1 map c0,c1 map c0,c1 t2", 8, "both both where c0<c1 t0 where c0<c1 t1 where c0<c1 map c0,c1 map c0,c1 t2", 10},
		{"where c0<c1 both both t0 t1 map c0,c1 map c0,c1 map c0,c1 t2", 9, "as it was", 9},
		{"where c0<c1 both both t0 t1 t2", 6, "both both where c0<c1 t0 where c0<c1 t1 where c0<c1 t2", 8},
		{"where c0<c1 both both t0 t1 both t2 t0", 8, "as it was", 8},
		// One that is once makes no part more.
		{"join 0 0 where c0<c1 once map c0,c1 map c0,c1 t0 where c0<c1 once map c0,c1 t1", 10, "join 0 0 once where c0<c1 map c0,c1 map c0,c1 t0 once where c0<c1 map c0,c1 t1", 10},
		// All is as it was, also what could be asked early by itself.
		{"join 0 0 where c0<c1 once t0 where c0=c1 both t1 map c0,c1 t2", 9, "join 0 0 once where c0<c1 t0 both where c0=c1 t1 where c0=c1 map c0,c1 t2", 10},
		{"join 0 0 where c0<c1 once t0 where c0=c1 both t1 map c0,c1 map c0,c1 t2", 10, "as it was", 10},
		{"join 0 0 where c0<c1 both t0 t1 where c0=c1 both t1 t2", 9, "as it was", 9},
		{"both where c0<c1 both t0 t1 where c0=c1 once t2", 8, "both both where c0<c1 t0 where c0<c1 t1 once where c0=c1 t2", 9},
		{"where c0<c1 both where c0=c1 both t0 t1 where c0=c1 both t1 t2", 10, "as it was", 10},
		// Each part is asked by itself: the inner one would be too much, and so is as it was, but the outer one is not.
		{"where c0<c1 once both both t0 t1 both t2 t0", 9, "once where c0<c1 both both t0 t1 both t2 t0", 9},
		{"where c0<c1 once where c0=c1 both both t0 t1 both t2 t0", 10, "once where c0<c1 where c0=c1 both both t0 t1 both t2 t0", 10},
		{"where c0<c1 once once both both t0 t1 both t2 t0", 10, "once once where c0<c1 both both t0 t1 both t2 t0", 10},
		{"once where c0<c1 both both t0 t1 both t2 t0", 9, "as it was", 9},
	} {
		if c.want == "as it was" {
			c.want = c.text
		}
		p := planRead(t, c.text)
		got := impl.SlimPush(p)
		if impl.PlanMany(p) != c.many || impl.PlanText(got) != c.want || impl.PlanMany(got) != c.then {
			t.Errorf("SlimPush of %q of %d parts is %q of %d; want %q", c.text, impl.PlanMany(p), impl.PlanText(got), impl.PlanMany(got), c.want)
		}
		wantSlim(t, p)
	}
}

// TestSlimDeep meets PlanDeep just so, and with one too many.
func TestSlimDeep(t *testing.T) {
	wantSlimTexts(t, "Slim", impl.Slim, map[string]string{
		"once once once once once t0":                                     "once t0",
		"where c0<c1 where c0<c1 where c0<c1 where c0<c1 where c0<c1 t0":  "where c0<c1 t0",
		"map c0 map c0 map c0 map c0 once t0":                             "map c0 map c0 map c0 map c0 once t0",
		"once map c0 map c0 map c0 both t0 t0":                            "once map c0 map c0 map c0 both t0 t0",
		"map c0 map c0 map c0 once both t0 t0":                            "map c0 map c0 map c0 once t0",
		"join 0 0 t0 map c0 map c0 where c0<c1 where c0<c1 t0":            "join 0 0 t0 map c0 map c0 where c0<c1 t0",
		"once both where c0<c1 where c0<c1 where c0<c1 t0 where c0<c1 t0": "once where c0<c1 t0",
	})
	wantSlimTexts(t, "SlimPush", impl.SlimPush, map[string]string{
		"where c0<c1 once once once once t0":                      "once once once once where c0<c1 t0",
		"where c0<c1 once once once both t0 t1":                   "once once once both where c0<c1 t0 where c0<c1 t1",
		"map c0 map c0 map c0 where c0<c1 once t0":                "map c0 map c0 map c0 once where c0<c1 t0",
		"where c0<c1 both t0 once once once t1":                   "both where c0<c1 t0 once once once where c0<c1 t1",
		"where c0<c1 both t0 both t1 both t2 t0":                  "where c0<c1 both t0 both t1 both t2 t0",
		"where c0<c1 both both both both t0 t1 t2 t0 t1":          "where c0<c1 both both both both t0 t1 t2 t0 t1",
		"where c0<c1 where c0<c1 where c0<c1 where c0<c1 once t0": "where c0<c1 where c0<c1 where c0<c1 once where c0<c1 t0",
	})
	x := less(col(0), col(1))
	for around := range 9 {
		wantSlim(t, nested(around, tableOf(0)))
		wantSlim(t, whereOf(x, nested(around, tableOf(0))))
		wantSlim(t, nested(around, whereOf(x, onceOf(tableOf(0)))))
		wantSlim(t, nested(around, bothOf(tableOf(0), tableOf(0))))
		wantSlim(t, whereOf(x, nested(around, bothOf(tableOf(0), tableOf(0)))))
	}
}

// TestSlimOfNoPlan is of plans that can not be written, each in a way of its own.
func TestSlimOfNoPlan(t *testing.T) {
	wrong := noPlans()
	x := less(col(0), col(1))
	for name, p := range map[string]impl.Plan{
		"one part too many":                    onceOf(whereOf(x, bothOf(bothOf(bothOf(tableOf(0), tableOf(0)), tableOf(1)), bothOf(tableOf(1), tableOf(2))))),
		"too many, but not when it is shorter": onceOf(bothOf(bothOf(bothOf(tableOf(0), tableOf(0)), tableOf(1)), bothOf(bothOf(tableOf(0), tableOf(0)), tableOf(1)))),
		"too deep, but not when it is shorter": nested(6, tableOf(0)), "too deep below a group": groupOf(nil, 0, 0, nested(5, tableOf(0))), "too deep below a test": whereOf(x, nested(5, tableOf(0))),
		"once of what is none": onceOf(impl.Plan{}), "once once of a table that is none": onceOf(onceOf(tableOf(3))), "group of kind 9": groupOf(nil, 0, 0, impl.Plan{Kind: 9}),
		"once with a test": {Kind: 6, Test: x, Kids: []impl.Plan{tableOf(0)}}, "once with keys": {Kind: 6, Keys: []int{0}, Kids: []impl.Plan{tableOf(0)}}, "once with cells": {Kind: 6, Cells: []impl.Cell{col(0)}, Kids: []impl.Plan{tableOf(0)}}, "once with N": {Kind: 6, N: 1, Kids: []impl.Plan{tableOf(0)}},
		"a test of kind 3": whereOf(impl.Test{Kind: 3, L: col(0), R: col(1)}, onceOf(tableOf(0))), "a test of cell 6": whereOf(less(col(6), num(0)), bothOf(tableOf(0), tableOf(0))), "the same wrong test twice": whereOf(less(col(-1), num(0)), whereOf(less(col(-1), num(0)), tableOf(0))),
		"a test without a kid": {Kind: 2, Test: x}, "a test of two": {Kind: 2, Test: x, Kids: []impl.Plan{onceOf(tableOf(0)), tableOf(0)}}, "a cell that is too much": onceOf(mapOf(onceOf(tableOf(0)), num(1000000001))), "a cell of kind 4": mapOf(onceOf(onceOf(tableOf(0))), impl.Cell{Kind: 4}), "7 cells": onceOf(onceOf(mapOf(tableOf(0), slices.Repeat([]impl.Cell{col(0)}, 7)...))),
		"a group without a kid": {Kind: 7}, "a group with a key twice": groupOf([]int{1, 1}, 0, 0, tableOf(0)), "a join of one": {Kind: 4, Kids: []impl.Plan{onceOf(tableOf(0))}}, "a join at -1": joinOf(0, -1, onceOf(tableOf(0)), onceOf(tableOf(0))),
		"both of what is none": onceOf(bothOf(impl.Plan{}, impl.Plan{})), "both of three": onceOf(impl.Plan{Kind: 5, Kids: []impl.Plan{tableOf(0), tableOf(0), tableOf(0)}}), "wrong in the second alone": onceOf(bothOf(tableOf(0), impl.Plan{Kind: 1, Col: 1})),
	} {
		wrong[name] = p
	}
	for name, p := range wrong {
		if impl.PlanMany(p) != 0 {
			t.Fatal(name)
		}
		if short, early := impl.Slim(p), impl.SlimPush(p); planShown(short) != planShown(impl.Plan{}) || planShown(early) != planShown(impl.Plan{}) || impl.SlimOnce(p) {
			t.Errorf("%s: %v, %v, %v", name, short, early, impl.SlimOnce(p))
		}
	}
}

// TestSlimOneChange changes one field of one part of a plan: mostly it can not be written then.
func TestSlimOneChange(t *testing.T) {
	for _, p := range plainPlans() {
		list, _ := partsByForm(p)
		for i := range list {
			for _, change := range changes() {
				other, at := deepCopy(p), i
				change(partAt(&other, &at))
				wantSlim(t, other)
				wantSlim(t, onceOf(other))
				wantSlim(t, whereOf(less(col(0), col(1)), other))
			}
		}
	}
}

// allPlans is all plans of just so many parts whose heads are some of these: of none, of one and of two kids.
func allPlans(many int, none []impl.Plan, one []func(impl.Plan) impl.Plan, two []func(a, b impl.Plan) impl.Plan) [][]impl.Plan {
	bySize := [][]impl.Plan{nil, none}
	for size := 2; size <= many; size++ {
		var list []impl.Plan
		for _, make := range one {
			for _, kid := range bySize[size-1] {
				list = append(list, make(kid))
			}
		}
		for _, make := range two {
			for first := 1; first < size-1; first++ {
				for _, a := range bySize[first] {
					for _, b := range bySize[size-1-first] {
						list = append(list, make(a, b))
					}
				}
			}
		}
		bySize = append(bySize, list)
	}
	return bySize
}

// fewPlans is all plans of up to so many parts, of every kind.
func fewPlans(many int) [][]impl.Plan {
	return allPlans(many, []impl.Plan{tableOf(0), tableOf(1)}, []func(impl.Plan) impl.Plan{
		onceOf,
		func(kid impl.Plan) impl.Plan { return whereOf(less(col(0), col(1)), kid) },
		func(kid impl.Plan) impl.Plan { return whereOf(impl.Test{Kind: 2, L: col(1), R: num(1)}, kid) },
		func(kid impl.Plan) impl.Plan { return mapOf(kid, col(1), col(0)) },
		func(kid impl.Plan) impl.Plan { return groupOf([]int{0}, 1, 1, kid) },
	}, []func(a, b impl.Plan) impl.Plan{
		bothOf,
		func(a, b impl.Plan) impl.Plan { return joinOf(0, 0, a, b) },
	})
}

// TestSlimOfAllPlans goes through all plans of a few parts, and through all of up to PlanSize parts, and of one more, in which only one test, both and once are.
func TestSlimOfAllPlans(t *testing.T) {
	for _, list := range fewPlans(6) {
		for _, p := range list {
			wantSlim(t, p)
		}
	}
	x := less(col(0), col(1))
	for many, list := range allPlans(11, []impl.Plan{tableOf(0)}, []func(impl.Plan) impl.Plan{onceOf, func(kid impl.Plan) impl.Plan { return whereOf(x, kid) }}, []func(a, b impl.Plan) impl.Plan{bothOf}) {
		short, early, was := 0, 0, 0
		for _, p := range list {
			wantSlim(t, p)
			if short += impl.PlanMany(p) - impl.PlanMany(impl.Slim(p)); samePlans(p, impl.SlimPush(p)) {
				was++
			} else {
				early++
			}
		}
		if many == 10 && (short < 1000 || early < 1000 || was < 1000) || many == 11 && early != len(list) {
			t.Errorf("of %d parts: %d are spared, %d are asked early, and %d are as they were", many, short, early, was)
		}
	}
}

// slimPlan is a plan of tables of two cells in which rules apply often: of few tests, and of two that are the same, but for what is made shorter.
func slimPlan(r *rand.Rand, deep int) impl.Plan {
	tests := []impl.Test{less(col(0), col(1)), {Kind: 2, Not: true, L: col(0), R: num(0)}}
	if deep == 0 {
		return tableOf(r.Intn(2))
	}
	kid := slimPlan(r, deep-1-r.Intn(2)*r.Intn(deep))
	switch r.Intn(12) {
	case 0, 1, 2:
		return onceOf(kid)
	case 3, 4, 5:
		return whereOf(tests[r.Intn(2)], kid)
	case 6:
		return onceOf(bothOf(kid, deepCopy(kid)))
	case 7:
		return onceOf(bothOf(kid, []impl.Plan{onceOf(kid), impl.Slim(kid), whereOf(tests[0], kid)}[r.Intn(3)]))
	case 8:
		return bothOf(kid, slimPlan(r, r.Intn(deep)))
	case 9:
		return mapOf(joinOf(r.Intn(2), r.Intn(2), kid, slimPlan(r, r.Intn(deep))), col(0), col(3))
	case 10:
		return groupOf([]int{r.Intn(2)}, r.Intn(4), r.Intn(2), kid)
	}
	return []impl.Plan{tableOf(r.Intn(2)), mapOf(kid, col(1), sumOf(0, 1)), mapOf(kid, col(1), num(1))}[r.Intn(3)]
}

func TestSlimOfManyPlans(t *testing.T) {
	r := rand.New(rand.NewSource(101))
	shorter, early, none := 0, 0, 0
	for range 30000 {
		p := slimPlan(r, 1+r.Intn(5))
		wantSlim(t, p)
		if impl.PlanMany(p) == 0 {
			none++
			continue
		}
		if !samePlans(p, impl.Slim(p)) {
			shorter++
		}
		if !samePlans(p, impl.SlimPush(p)) {
			early++
		}
	}
	if shorter < 3000 || early < 3000 || none < 500 {
		t.Error("too few plans:", shorter, early, none)
	}
	for range 20000 {
		wantSlim(t, somePlan(r, 1+r.Intn(5)))
	}
}

// someTables is two tables of two cells; none is missing, if all are there.
func someTables(r *rand.Rand, there bool) [][]impl.Item {
	tables := make([][]impl.Item, 2)
	for n := range tables {
		var z []impl.Item
		for range r.Intn(7) {
			w := 1 + r.Intn(3)
			if !there && r.Intn(3) == 0 {
				w = -w
			}
			z = append(z, impl.Item{Row: []int{r.Intn(4) - 1, r.Intn(4) - 1}, W: w})
		}
		tables[n], _ = sumByForm(z)
	}
	return tables
}

// wantMeansSame asks that a plan means the same when it is shorter, and when it is asked early. What is shorter can be told wherever the plan can; and so can what is asked early, if no row is missing: what there is of one that is both is there of the two together, too.
func wantMeansSame(t *testing.T, p impl.Plan, tables [][]impl.Item, there bool) bool {
	t.Helper()
	want, ok := impl.MeanOf(p, tables)
	short, shortOk := impl.MeanOf(impl.Slim(p), tables)
	early, earlyOk := impl.MeanOf(impl.SlimPush(p), tables)
	what := fmt.Sprintf("%s over %q", impl.PlanText(p), listsText(tables))
	if ok && (!shortOk || there && !earlyOk) {
		t.Fatalf("%s can be told; when it is shorter %v, asked early %v", what, shortOk, earlyOk)
	}
	if ok && !sameItems(short, want) {
		t.Fatalf("%s is %s; %s, when it is shorter", what, impl.ZText(want), impl.ZText(short))
	}
	if ok && earlyOk && !sameItems(early, want) {
		t.Fatalf("%s is %s; %s, when it is asked early", what, impl.ZText(want), impl.ZText(early))
	}
	return ok && len(want) > 0
}

// TestSlimMeansTheSame holds what is meant by a plan against what is meant by it when it is shorter, and asked early.
func TestSlimMeansTheSame(t *testing.T) {
	r := rand.New(rand.NewSource(102))
	told := 0
	for _, list := range fewPlans(5) {
		for _, p := range list {
			if impl.PlanWide(p, []int{2, 2}) < 0 {
				continue
			}
			for range 4 {
				there := r.Intn(2) == 0
				if wantMeansSame(t, p, someTables(r, there), there) {
					told++
				}
			}
		}
	}
	if told < 4000 {
		t.Error("too little was told of few parts:", told)
	}
	told = 0
	for range 30000 {
		p, there := slimPlan(r, 2+r.Intn(4)), r.Intn(2) == 0
		if impl.PlanWide(p, []int{2, 2}) < 0 || samePlans(p, impl.Slim(p)) && samePlans(p, impl.SlimPush(p)) {
			continue
		}
		if wantMeansSame(t, p, someTables(r, there), there) {
			told++
		}
	}
	if told < 3000 {
		t.Error("too little was told:", told)
	}
}

// TestSlimOfMuch is of what can be told only of a plan that is shorter, or asked early, and of what can be told only of the plan as it is: what both tell is the same.
func TestSlimOfMuch(t *testing.T) {
	for name, c := range map[string]struct {
		text               string
		tables             [][]impl.Item
		plan, short, early bool
	}{
		"weights that are too much twice":           {"once both t0 t0", [][]impl.Item{many(1, 1, 6000)}, false, true, false},
		"weights that are just not too much":        {"once both t0 t0", [][]impl.Item{many(1, 1, 5000)}, true, true, true},
		"rows that are too many in both":            {"where c0<#50 both t0 t1", [][]impl.Item{many(0, 60, 1), many(60, 60, 1)}, false, false, true},
		"rows that are just not too many":           {"where c0<#50 both t0 t1", [][]impl.Item{many(0, 60, 1), many(60, 40, 1)}, true, true, true},
		"weights that are too much where it is not": {"where c0<#1 both t0 t1", [][]impl.Item{many(0, 2, 6000), many(1, 1, 6000)}, false, false, true},
		"a row that goes ahead of being asked":      {"where c0+c0<#9 both t0 t1", [][]impl.Item{many(999999999, 1, 1), many(999999999, 1, -1)}, true, true, false},
		"a row that is missing":                     {"where c0+c0<#9 once t0", [][]impl.Item{many(999999999, 1, -1)}, true, true, false},
		"a row that is there":                       {"where c0+c0<#9 once t0", [][]impl.Item{many(999999999, 1, 1)}, false, false, false},
	} {
		p := planRead(t, c.text)
		_, plan := impl.MeanOf(p, c.tables)
		_, short := impl.MeanOf(impl.Slim(p), c.tables)
		_, early := impl.MeanOf(impl.SlimPush(p), c.tables)
		if plan != c.plan || short != c.short || early != c.early {
			t.Errorf("%s: %v, %v, %v", name, plan, short, early)
		}
		wantMeansSame(t, p, c.tables, false)
	}
}

// slimViews is a store with views of a plan, of it when it is shorter, and of it when it is asked early; whether there is room for all of them.
func slimViews(t *testing.T, p impl.Plan, tables [][]impl.Item) (*keeper, bool) {
	t.Helper()
	k := keep(t, 2, 2)
	wantCode(t, listsText(tables), k.turn(t, tables), 0)
	for _, view := range []impl.Plan{p, impl.Slim(p), impl.SlimPush(p)} {
		next, code := wantView(t, k.store, view)
		if code == impl.StoreBig {
			return k, false
		}
		wantCode(t, impl.PlanText(view), code, 0)
		k.store = next
	}
	return k, true
}

// wantViewsSame reads all views at all times: they are as the first one; how often there is something.
func (k *keeper) wantViewsSame(t *testing.T) int {
	t.Helper()
	told := 0
	for at := k.store.Keep; at <= k.store.Now; at++ {
		want, wantCode := impl.StoreRead(k.store, 0, at)
		for view := 1; view < len(k.store.Views); view++ {
			if got, code := impl.StoreRead(k.store, view, at); code != wantCode || !sameItems(got, want) {
				t.Fatalf("%s at %d is %s, %d; %s is %s, %d", impl.PlanText(k.store.Views[0].Flow.Plan), at, impl.ZText(want), wantCode, impl.PlanText(k.store.Views[view].Flow.Plan), impl.ZText(got), code)
			}
		}
		told += min(1, len(want))
	}
	return told
}

// TestSlimViewsAreTheSame turns tables of a store with the three views of each plan, and merges and forgets now and then.
func TestSlimViewsAreTheSame(t *testing.T) {
	r := rand.New(rand.NewSource(103))
	told, stores := 0, 0
	for stores < 150 {
		p := slimPlan(r, 2+r.Intn(4))
		if impl.PlanWide(p, []int{2, 2}) < 0 || samePlans(p, impl.Slim(p)) && samePlans(p, impl.SlimPush(p)) {
			continue
		}
		k, ok := slimViews(t, p, someTables(r, true))
		if !ok {
			continue
		}
		stores++
		for range 8 {
			k.turn(t, someBatch(r, k.store))
			k.merge(t, r.Intn(3), r.Intn(30))
			if r.Intn(5) == 0 {
				k.forget(t, k.store.Keep+r.Intn(k.store.Now-k.store.Keep+1))
			}
			told += k.wantViewsSame(t)
		}
		k.wantMeant(t)
	}
	if told < 2000 {
		t.Error("too little was told:", told)
	}
}

// TestSlimViewsByText is the same of a few plans, with what each view is at each time.
func TestSlimViewsByText(t *testing.T) {
	for text, want := range map[string]string{
		"once both once t0 once once t0":               "1,2*1 / 1,2*1 3,1*1 / 3,1*1 / 3,1*1",
		"where c0<c1 both once t0 t1":                  "1,2*1 / 1,2*1 4,5*2 / 1,2*1 4,5*2 / 1,2*1",
		"once where c0<c1 where c0<c1 both t0 t1":      "1,2*1 / 1,2*1 4,5*1 / 1,2*1 4,5*1 / 1,2*1",
		"where c0<c1 once both t0 t0":                  "1,2*1 / 1,2*1 /  / ",
		"once where c0<c1 group 0 sum 1 both t0 t0":    "1,8*1 / 1,8*1 /  / 3,8*1",
		"group - count 0 where !c0<c1 once both t0 t1": " / 1*1 / 1*1 / 1*1",
	} {
		k, ok := slimViews(t, planRead(t, text), listsRead(t, "1,2*2 /"))
		if !ok {
			t.Fatal(text)
		}
		k.turns(t, "3,1*1 / 4,5*2", "1,2*-2 / 1,2*1", "3,1*3 / 4,5*-2")
		k.wantMeant(t)
		k.wantViewsSame(t)
		var got []string
		for at := 1; at <= 4; at++ {
			z, _ := impl.StoreRead(k.store, 0, at)
			got = append(got, impl.ZText(z))
		}
		if strings.Join(got, " / ") != want {
			t.Errorf("%q is %q; want %q", text, strings.Join(got, " / "), want)
		}
	}
}

// slimCalls is each call of a plan that is shorter, by name.
func slimCalls() map[string]func(in impl.Plan) impl.Plan {
	return map[string]func(in impl.Plan) impl.Plan{
		"Slim":     impl.Slim,
		"SlimPush": impl.SlimPush,
		"SlimOnce": func(in impl.Plan) impl.Plan { impl.SlimOnce(in); return impl.Plan{} },
	}
}

func TestSlimIsNewMemory(t *testing.T) {
	for _, text := range []string{
		"t0", "once t0", "group 0,1 sum 1 t0", "map c0,c1 t0", "once group 0,1 sum 1 t0", "once once map c0,c1 t0", "where c0<c1 where c0<c1 map c0,c1 t0", "once both map c0,c1 t0 map c0,c1 t0", "once both group 0,1 sum 1 t0 group 0,1 sum 1 t0",
		"where c0<c1 both map c0,c1 t0 group 0,1 sum 1 t0", "where c0<c1 once map c0,c1 t0", "where c0<c1 once both group 0 sum 1 t0 map c0,c1 t1", "join 0 0 map c0,c1 t0 where c0<c1 map c0,c1 t1",
		"where c0<c1 both both map c0,c1 t0 t1 both t2 map c0,c1 t0", "where c0<c1 once both both map c0,c1 t0 t1 both t2 t0", "once where c0<c1 both both map c0,c1 t0 t1 both t2 t0",
	} {
		wantCallsNewMemory(t, text, roomyPlan(planRead(t, text)), slimCalls())
	}
	for text, p := range plainPlans() {
		wantCallsNewMemory(t, text, roomyPlan(p), slimCalls())
	}
	r := rand.New(rand.NewSource(104))
	for range 3000 {
		p := slimPlan(r, 1+r.Intn(5))
		wantCallsNewMemory(t, planShown(p), roomyPlan(p), slimCalls())
	}
	wantCallsNewMemory(t, "too deep", roomyPlan(nested(6, tableOf(0))), slimCalls())
	wantCallsNewMemory(t, "a wrong test", roomyPlan(whereOf(impl.Test{}, mapOf(tableOf(0), col(0)))), slimCalls())
}

// TestSlimOfSharedMemory gives a plan whose parts are one list in memory: those of an answer are apart all the same.
func TestSlimOfSharedMemory(t *testing.T) {
	x := less(col(0), col(1))
	cells := append([]impl.Cell{col(0), col(1)}, col(9))[:2]
	kid := mapOf(tableOf(0), cells...)
	kid.Cells = cells
	kids := []impl.Plan{kid, kid}
	for name, p := range map[string]impl.Plan{
		"both": {Kind: 5, Kids: kids}, "once both": onceOf(impl.Plan{Kind: 5, Kids: kids}), "where both": whereOf(x, impl.Plan{Kind: 5, Kids: kids}),
		"join of once": {Kind: 4, Kids: []impl.Plan{{Kind: 6, Kids: kids[:1]}, {Kind: 6, Kids: kids[:1]}}}, "where both once": whereOf(x, bothOf(impl.Plan{Kind: 6, Kids: kids[:1]}, impl.Plan{Kind: 6, Kids: kids[:1]})),
		"where both both": whereOf(x, bothOf(impl.Plan{Kind: 5, Kids: kids}, kid)),
	} {
		if impl.PlanMany(p) == 0 {
			t.Fatal(name)
		}
		wantSlim(t, p)
		wantCallsNewMemory(t, name, p, slimCalls())
	}
}
