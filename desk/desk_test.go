package desk_test

import (
	"math/rand"
	"strconv"
	"strings"
	"testing"

	"gimbal/api"
	"gimbal/desk"
	"gimbal/fold"
	"gimbal/item"
	"gimbal/sum"
)

// text returns lines, each with a line feed.
func text(lines ...string) string {
	s := ""
	for _, l := range lines {
		s += l + "\n"
	}
	return s
}

func split(s string) []string { return strings.Split(s, "; ") }

func run(t *testing.T, script, want string) {
	t.Helper()
	got, e := desk.Run(text(split(script)...))
	if e != api.OK || got != text(split(want)...) {
		t.Errorf("%s: %d\n%s", script, e, got)
	}
}

// only checks the last line of the output.
func only(t *testing.T, script, want string) {
	t.Helper()
	got, e := desk.Run(text(split(script)...))
	l := strings.Split(got, "\n")
	if e != api.OK || len(l) < 2 || l[len(l)-2] != want {
		t.Errorf("%s: %d\n%s", script, e, got)
	}
}

func TestExamplesOfTheDocument(t *testing.T) { // P25.1
	run(t, "judge; group 0 5; group 1 5; bag", "no 110; no 2; ok; bag 0")
	run(t, "group 1 5; ask 0 ship 0; ask 8 ship 1; ask 0 ship 1; ask 0 ship 1; ask 0 ship", "ok; no 2; no 9; num 1; no 110; no 4")
	run(t, "group 1 5; ask 2 restock a 5; client 2; message 0; message 1", "ok; num 1; ok; message 1 17 0 0 0; no 9")
	run(t, "group 1 5; rounds 2; bag; show 1; rounds 0", "ok; came 2; bag 4; view 0 normal base 0 commit 0 top 0; no 2")
	run(t, "group 1 5; crash 0; crash 0; show 0; restart 0; restart 0; tick 3", "ok; ok; no 200; down; ok; no 110; no 9")
	run(t, "group 1 5; ask 1 restock a 3; heal 20; events; events; judge", "ok; num 1; rounds 4; asked 1 1; done 1 1 1 0 3 0 said; none; fine 1")
	run(t, "group 1 5; ask 1 restock a 3; client 1; drop 0; client 1; client 1; client 1; client 1; bag; client 1; bag", "ok; num 1; ok; ok; ok; ok; ok; ok; bag 0; ok; bag 3")
	run(t, "group 1 5; ask 2 reserve 1 9 a 1; heal 20; events; ledger 1; orders 0", "ok; num 1; rounds 4; asked 2 1; done 2 1 1 1 1 0 said; entry 2 1 reserve 1 9 a 1; orders")
	run(t, "group 1 5; arm 0 3; ask 1 restock a 3; client 1; deliver 0; show 0; restart 0; show 0", "ok; ok; num 1; ok; ok; down; ok; view 0 normal base 0 commit 0 top 0")
	run(t, "group 1 5; tick 1; tick 1; tick 1; tick 1; tick 1; show 1; bag; message 2; tick", "ok; ok; ok; ok; ok; ok; view 1 change base 0 commit 0 top 0; bag 2; no 9; no 4")
	run(t, "group 1 5; ask 2 restock a 5; client 2; deliver 0; bag; deliver 0; deliver 2; deliver 3; events; show 0; skus 0; judge; ledger 1; tick 7; tick",
		"ok; num 1; ok; ok; bag 3; ok; ok; ok; asked 2 1; done 2 1 1 0 5 0 sure; view 0 normal base 0 commit 1 top 1; skus a 5 0; fine 1; entry 2 1 restock a 5; no 9; no 4")
}

var commands = map[string]int{ // how many numbers they have
	"group": 2, "tick": 1, "client": 1, "deliver": 1, "drop": 1, "twice": 1, "crash": 1, "restart": 1, "arm": 2, "round": 0, "rounds": 1, "heal": 1,
	"show": 1, "sum": 1, "skus": 1, "orders": 1, "events": 0, "bag": 0, "message": 1, "judge": 0, "ledger": 1,
}

func TestForm(t *testing.T) { // P25.1
	for word, n := range commands {
		line := word + strings.Repeat(" 1", n)
		run(t, line+" 1", "no 4")
		run(t, "group 1 5; "+line+" 1", "ok; no 4")
		if n > 0 {
			for _, bad := range []string{"", " x", " 01", " -0", " +1", " 1x", " 12345678901", " -12345678901", " 1.0", " 0x1", " 00", " -", " --1", " -01", " ١", " 1_0"} {
				run(t, word+strings.Repeat(" 1", n-1)+bad, "no 4")
				run(t, word+bad+strings.Repeat(" 1", n-1), "no 4")
			}
		}
		if word != "group" {
			run(t, line, "no 110")
			run(t, "group 0 5; group 1 0; "+line, "no 2; no 2; no 110")
		}
	}
	for _, line := range []string{"x", "Tick 1", "group", "ask", "ask 1", "ask x ship 1", "ask ship 1", "ask 1 ship", "ask 1 ship x", "ask 1 ship 1 1", "ask 1 x 1", "tick\t1", "tick 1\r", "rounds", "no 1", "-", "1", "ask -0 ship 1"} {
		run(t, line, "no 4")
	}
	run(t, "ask 1 ship 0; ask 9 ship 1; ask 0 restock A 0", "no 110; no 110; no 110")
	run(t, "group 1 5; tick 9999999999; tick -9999999999; tick -1; arm 0 9999999999", "ok; no 9; no 9; no 9; ok")
}

func TestRanges(t *testing.T) { // P25.1
	for _, word := range []string{"tick", "client", "deliver", "drop", "twice", "crash", "restart", "show", "sum", "skus", "orders", "message", "ledger"} {
		for _, n := range []string{"-1", "8", "15", "9999999999", "-9999999999"} {
			run(t, "group 1 5; "+word+" "+n, "ok; no 9")
		}
	}
	run(t, "group 1 5; arm 3 0; arm 0 -1; arm -1 -1; crash 1; arm 1 1; tick 1; ledger 0; ledger 1", "ok; no 9; no 2; no 9; ok; no 200; no 200; no 9; no 9")
	run(t, "group 1 5; ask 8 ship 0; ask 0 ship 0; ask 0 restock A 1; ask 0 ship 1; ask 0 ship 0", "ok; no 9; no 2; no 2; num 1; no 110")
	run(t, "group 8 5; group 1 1001; group -1 5; group 1 -1; group 7 1000; show 14; show 15", "no 2; no 2; no 2; no 2; ok; view 0 normal base 0 commit 0 top 0; no 9")
}

func TestLines(t *testing.T) { // P25.1, P25.4
	for script, want := range map[string]string{
		"":                             "",
		"\n":                           "",
		"\n\n\n":                       "",
		"   \n #x\n#\n# group 1 5\n":   "",
		"group 1 5":                    "ok\n",
		"group 1 5\n":                  "ok\n",
		"  group   1 5  \n\nbag":       "ok\nbag 0\n",
		"group 1 5\n#bag\n # bag\nbag": "ok\nbag 0\n",
		"bag #":                        "no 4\n",
		"\xff\xfe\n":                   "no 4\n",
		"\u00a0\n":                     "no 4\n",
		"group\u00a01 5\n":             "no 4\n",
		"\t\n":                         "no 4\n",
		"gro\x00up 1 5":                "no 4\n",
	} {
		if got, e := desk.Run(script); got != want || e != api.OK {
			t.Errorf("%q: %q, %d", script, got, e)
		}
	}
}

func TestLimits(t *testing.T) { // P25.1
	for script, want := range map[string]api.Errno{
		strings.Repeat("\n", 1024):                    api.OK,
		strings.Repeat("\n", 1025):                    api.ErrLimit,
		strings.Repeat("\n", 1024) + "x":              api.ErrLimit,
		strings.Repeat("\n", 1023) + "x":              api.OK,
		strings.Repeat("#", 65536):                    api.OK,
		strings.Repeat("#", 65537):                    api.ErrLimit,
		strings.Repeat(" ", 65535) + "\n":             api.OK,
		strings.Repeat(" ", 65536) + "\n":             api.ErrLimit,
		"group 1 5\n" + strings.Repeat("bag\n", 1024): api.ErrLimit,
	} {
		got, e := desk.Run(script)
		if e != want || e != api.OK && got != "" {
			t.Errorf("%d bytes: %d", len(script), e)
		}
	}
}

func TestGroupAgain(t *testing.T) { // P25.1
	run(t, "group 1 5; ask 0 restock a 1; heal 9; group 0 1; events; judge; group 2 5; events; judge; bag; ask 0 restock a 1",
		"ok; num 1; rounds 4; no 2; asked 0 1; done 0 1 1 0 1 0 said; fine 1; ok; none; fine 0; bag 0; num 1")
}

func TestRounds(t *testing.T) { // P25.1
	run(t, "group 1 5; rounds 101; rounds -1; rounds 100; rounds 99; rounds 2; round; round; rounds 1; heal 1; heal 0; rounds 0; rounds 101",
		"ok; no 2; no 2; came 394; came 396; no 5; came 4; no 5; no 5; no 5; no 2; no 2; no 2")
	run(t, "group 1 5; rounds 100; group 1 5; rounds 98; ask 0 restock a 1; heal 9; ask 1 restock a 1; heal 1; heal 1; events",
		"ok; came 394; ok; came 386; num 1; rounds 2; num 1; no 5; no 5; asked 0 1; asked 1 1")
}

func TestHeal(t *testing.T) { // P25.1
	run(t, "group 1 5; heal 0; heal -1; heal 5; crash 0; crash 1; heal 1; show 0; show 1", "ok; no 2; no 2; rounds 0; ok; ok; rounds 0; view 0 normal base 0 commit 0 top 0; view 0 normal base 0 commit 0 top 0")
	run(t, "group 1 5; arm 0 0; ask 0 restock a 1; heal 2; heal 9999999999; show 0; events", "ok; ok; num 1; rounds 2; rounds 2; view 0 normal base 0 commit 1 top 1; asked 0 1; done 0 1 1 0 1 0 said")
}

func TestTell(t *testing.T) { // P25.1
	before := "group 1 5; ask 0 restock b 7; heal 9; ask 0 restock a 5; heal 9; ask 1 reserve 9 20 b 2 a 1; heal 9; ask 1 reserve 4 30 b 1; heal 9; ask 1 confirm 9; heal 9; "
	only(t, before+"skus 0", "skus a 5 1 b 7 3")
	only(t, before+"orders 0", "orders 4 30 1 9 20 2")
	only(t, before+"ledger 3", "entry 1 1 reserve 9 20 b 2 a 1")
	only(t, before+"ledger 5", "entry 1 3 confirm 9")
	only(t, before+"ledger 6", "no 9")
	only(t, before+"judge", "fine 5")
	only(t, before+"crash 0; skus 0", "down")
	only(t, before+"crash 0; orders 0", "down")
	only(t, before+"crash 0; sum 0", "down")
	only(t, "group 1 5; skus 2", "skus")
	only(t, "group 1 5; orders 2", "orders")
	s, _ := fold.Of([]api.Entry{{Client: 3, Num: 1, Op: api.Op{Kind: api.OpRestock, Sku: "a", N: 5}}})
	digits := strconv.FormatUint(s.Sum(), 16)
	only(t, "group 1 5; ask 3 restock a 5; client 3; deliver 0; sum 0", "sum "+strings.Repeat("0", 16-len(digits))+digits)
	empty := strconv.FormatUint(sum.Fnv(fold.New().Bytes()), 16)
	only(t, "group 1 5; sum 1", "sum "+strings.Repeat("0", 16-len(empty))+empty)
	only(t, "group 1 5; tick 0; message 1", "message 5 0 2 0 0")
	only(t, "group 1 5; tick 0; twice 0; bag", "bag 3")
	only(t, "group 1 5; ask 0 confirm 1; client 0; deliver 0; message 2", "message 2 0 15 0 1")
}

func TestEvents(t *testing.T) { // P25.1
	run(t, "group 1 5; events; ask 0 confirm 1; events; events; client 0; deliver 0; deliver 0; deliver 2; deliver 1; deliver 1; events; events",
		"ok; none; num 1; asked 0 1; none; ok; ok; ok; ok; ok; ok; done 0 1 1 1 0 0 said; none")
}

func TestSay(t *testing.T) { // P25.2, P25.6
	line := func(sku string, n int) api.Line { return api.Line{Sku: sku, N: n} }
	for words, o := range map[string]api.Op{
		"restock a 5":                         {Kind: api.OpRestock, Sku: "a", N: 5},
		"adjust ab1 -5":                       {Kind: api.OpAdjust, Sku: "ab1", N: -5},
		"adjust ab1 2147483647":               {Kind: api.OpAdjust, Sku: "ab1", N: api.MaxQty},
		"reserve 7 9 a 1":                     {Kind: api.OpReserve, Order: 7, N: 9, Lines: []api.Line{line("a", 1)}},
		"reserve 7 9 a 1 b 2 c 3 d 4":         {Kind: api.OpReserve, Order: 7, N: 9, Lines: []api.Line{line("a", 1), line("b", 2), line("c", 3), line("d", 4)}},
		"confirm 1":                           {Kind: api.OpConfirm, Order: 1},
		"cancel 2":                            {Kind: api.OpCancel, Order: 2},
		"ship 3":                              {Kind: api.OpShip, Order: 3},
		"expire 4":                            {Kind: api.OpExpire, N: 4},
		"sku 7":                               {Kind: api.OpSku, Sku: "7"},
		"order 5":                             {Kind: api.OpOrder, Order: 5},
		"restock restock 1":                   {Kind: api.OpRestock, Sku: "restock", N: 1},
		"reserve 2147483647 2147483647 sku 1": {Kind: api.OpReserve, Order: api.MaxQty, N: api.MaxQty, Lines: []api.Line{line("sku", 1)}},
	} {
		if s, e := desk.Say(o); s != words || e != api.OK {
			t.Errorf("%q, %d", s, e)
		}
		for _, w := range []string{words, "  " + strings.ReplaceAll(words, " ", "   ") + " "} {
			if x, e := desk.Read(w); !item.Same(x, o) || e != api.OK {
				t.Errorf("%q: %v, %d", w, x, e)
			}
		}
	}
	for _, o := range []api.Op{{}, {Kind: -1}, {Kind: 10}, {Kind: api.OpShip}, {Kind: api.OpSku, Sku: "A"}, {Kind: api.OpReserve, Order: 1, N: 1}} {
		if s, e := desk.Say(o); s != "" || e != api.ErrArg {
			t.Errorf("%q, %d", s, e)
		}
	}
}

func TestRead(t *testing.T) { // P25.2
	for words, want := range map[string]api.Errno{
		"": api.ErrForm, " ": api.ErrForm, "#": api.ErrForm, "x": api.ErrForm, "ship": api.ErrForm, "ship 1 2": api.ErrForm, "ship x": api.ErrForm, "ship 01": api.ErrForm, "Ship 1": api.ErrForm, "ship 1\n": api.ErrForm, "ship\t1": api.ErrForm,
		"restock a": api.ErrForm, "restock 5 a": api.ErrForm, "restock a 5 6": api.ErrForm, "sku": api.ErrForm, "sku a b": api.ErrForm, "expire": api.ErrForm, "expire a": api.ErrForm,
		"reserve 1 2": api.ErrForm, "reserve 1 2 a": api.ErrForm, "reserve 1 2 a x": api.ErrForm, "reserve 1 2 a 1 b": api.ErrForm, "reserve 1 2 a 1 b 1 c 1 d 1 e 1": api.ErrForm, "reserve x 2 a 1": api.ErrForm, "reserve 1 x a 1": api.ErrForm,
		"ship 12345678901": api.ErrForm, "ship -0": api.ErrForm,
		"ship 0": api.ErrArg, "ship -1": api.ErrArg, "ship 2147483648": api.ErrArg, "ship 9999999999": api.ErrArg, "restock A 5": api.ErrArg, "restock # 5": api.ErrArg, "restock a 0": api.ErrArg, "adjust a 0": api.ErrArg,
		"reserve 1 2 a 1 a 1": api.ErrArg, "sku abcdefghi": api.ErrArg, "restock \xff 1": api.ErrArg, "expire 0": api.ErrArg,
	} {
		if o, e := desk.Read(words); e != want || !item.Same(o, api.Op{}) {
			t.Errorf("%q: %v, %d", words, o, e)
		}
	}
}

// randomLine returns a line that is likely to do something.
func randomLine(r *rand.Rand) string {
	n := func(most int) string { return " " + strconv.Itoa(r.Intn(most)) }
	sku := " " + string(rune('a'+r.Intn(3)))
	switch r.Intn(16) {
	case 0, 1, 2:
		return "ask" + n(8) + []string{" restock" + sku + n(9), " reserve" + n(5) + n(30) + sku + n(4), " confirm" + n(5), " ship" + n(5), " expire" + n(20), " sku" + sku}[r.Intn(6)]
	case 3:
		return "client" + n(8)
	case 4, 5, 6, 7:
		return "deliver" + n(5)
	case 8:
		return []string{"drop", "twice"}[r.Intn(2)] + n(6)
	case 9, 10:
		return "tick" + n(5)
	case 11:
		return []string{"crash", "restart", "restart"}[r.Intn(3)] + n(5)
	case 12:
		return "arm" + n(5) + n(99)
	case 13:
		return []string{"round", "rounds 2"}[r.Intn(2)]
	case 14:
		return []string{"show", "sum", "skus", "orders"}[r.Intn(4)] + n(5)
	}
	return []string{"events", "bag", "judge", "message 0", "ledger 1", "# nothing", ""}[r.Intn(7)]
}

func TestNeverBroken(t *testing.T) { // P25.3, P25.4, P25.5, P25.7, W1
	r := rand.New(rand.NewSource(1))
	for range 40 {
		limit := 5 + r.Intn(5)
		lines := []string{"group " + strconv.Itoa(1+r.Intn(2)) + " " + strconv.Itoa(limit)}
		for range 200 {
			l := randomLine(r)
			if strings.HasPrefix(l, "round") {
				l = "judge"
			}
			lines = append(lines, l)
		}
		lines = append(lines, "heal 200", "judge", "events")
		whole, e := desk.Run(text(lines...))
		if e != api.OK || strings.Contains(whole, "broken") {
			t.Fatal(e, whole)
		}
		if strings.Count(whole, "asked ") != strings.Count(whole, "done ") {
			t.Fatal("some request is not done", whole)
		}
		at := r.Intn(len(lines))
		if part, _ := desk.Run(text(lines[:at]...)); !strings.HasPrefix(whole, part) {
			t.Fatal("later lines change the output of earlier ones")
		}
		blank := strings.ReplaceAll(strings.Join(lines, "\n \n"), " ", "  ")
		if same, _ := desk.Run(blank); same != whole {
			t.Fatal("blanks count")
		}
	}
}

func TestNeverBrokenByRounds(t *testing.T) { // P25.5
	r := rand.New(rand.NewSource(2))
	for range 15 {
		lines := []string{"group 1 5"}
		for range 400 {
			lines = append(lines, randomLine(r))
		}
		if out, e := desk.Run(text(append(lines, "judge")...)); e != api.OK || strings.Contains(out, "broken") {
			t.Fatal(e, out)
		}
	}
}
