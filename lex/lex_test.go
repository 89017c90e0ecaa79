package lex

import (
	"slices"
	"strconv"
	"strings"
	"testing"

	"governor/api"
	"governor/diag"
)

const keys = "INTERFACE END_INTERFACE CLASS END_CLASS PROGRAM END_PROGRAM METHOD END_METHOD TASK INTERVAL PRIORITY EXTENDS IMPLEMENTS ABSTRACT FINAL OVERRIDE VAR AT IN OUT INT BOOL REAL LREAL ARRAY OF REF_TO REF TON TOF TP CTU CTD R_TRIG F_TRIG TRUE FALSE NULL THIS SUPER AS NOT AND OR XOR MOD IF THEN ELSIF ELSE END_IF CASE END_CASE WHILE DO END_WHILE FOR TO BY END_FOR RETURN EXIT STEP DONE COUNT"

func key(s string, at int) api.Token  { return api.Token{Kind: api.Key, Text: s, At: at} }
func word(s string, at int) api.Token { return api.Token{Kind: api.Word, Text: s, At: at} }
func sign(s string, at int) api.Token { return api.Token{Kind: api.Sign, Text: s, At: at} }
func number(s string, at int) api.Token {
	n, _ := strconv.Atoi(s)
	return api.Token{Kind: api.Digit, Text: s, N: n, At: at}
}

func TestTokens(t *testing.T) {
	for _, c := range []struct {
		src  string
		want []api.Token
	}{
		{"", nil}, {" \t\r\n", nil}, {"(**)", nil}, {"(*(*)", nil}, {"(* * ) *)(**)", nil},
		{"x:=1(*c*);", []api.Token{word("x", 0), sign(":=", 1), number("1", 3), sign(";", 9)}},
		{"INTx int INT_ INT", []api.Token{word("INTx", 0), word("int", 5), word("INT_", 9), key("INT", 14)}},
		{"a_1_ Z9", []api.Token{word("a_1_", 0), word("Z9", 5)}},
		{"12a", []api.Token{number("12", 0), word("a", 2)}},
		{"00007 32768 0", []api.Token{number("00007", 0), number("32768", 6), number("0", 12)}},
		{"1..5", []api.Token{number("1", 0), sign("..", 1), number("5", 3)}},
		{"1...5", []api.Token{number("1", 0), sign("..", 1), sign(".", 3), number("5", 4)}},
		{"<><=>=<>", []api.Token{sign("<>", 0), sign("<=", 2), sign(">=", 4), sign("<>", 6)}},
		{"><>:=:?=.", []api.Token{sign(">", 0), sign("<>", 1), sign(":=", 3), sign(":", 5), sign("?=", 6), sign(".", 8)}},
		{"<", []api.Token{sign("<", 0)}},
		{"*)(", []api.Token{sign("*", 0), sign(")", 1), sign("(", 2)}},
		{"( *", []api.Token{sign("(", 0), sign("*", 2)}},
		{"+-*/=()[],;:.", []api.Token{sign("+", 0), sign("-", 1), sign("*", 2), sign("/", 3), sign("=", 4), sign("(", 5),
			sign(")", 6), sign("[", 7), sign("]", 8), sign(",", 9), sign(";", 10), sign(":", 11), sign(".", 12)}},
		{"abcdefghijkl", []api.Token{word("abcdefghijkl", 0)}},
		{"END_INTERFACE", []api.Token{key("END_INTERFACE", 0)}},
	} {
		got, err := All(c.src)
		if err != nil || !slices.Equal(got, c.want) {
			t.Errorf("P3.1: %q: %v, %v", c.src, got, err)
		}
	}
}

func TestErrors(t *testing.T) {
	long := strings.Repeat("x ", api.MaxTokens)
	for _, c := range []struct {
		src      string
		code, at int
	}{
		{"x := $", api.Lex, 5}, {"_a", api.Lex, 0}, {"a ?", api.Lex, 2}, {"a ? =", api.Lex, 2}, {"x\x00", api.Lex, 1},
		{"\x0b", api.Lex, 0}, {"\xc3\xa4", api.Lex, 0}, {"a \"b\"", api.Lex, 2},
		{"a (* b", api.Lex, 2}, {"(*)", api.Lex, 0}, {"(", api.Fine, 0}, {"(*", api.Lex, 0}, {"a(* *", api.Lex, 1},
		{"a abcdefghijklm", api.Lex, 2}, {"abcdefghijkl_", api.Lex, 0},
		{"x 000001", api.Lex, 2}, {"32769", api.Lex, 0}, {"1 99999", api.Lex, 2}, {"100000", api.Lex, 0},
		{"x : REAL", api.Real, 4}, {"LREAL $", api.Real, 0}, {"$ REAL", api.Lex, 0}, {"REALx real", api.Fine, 0},
		{long, api.Fine, 0}, {long + "y", api.Size, 3000}, {long + " (*c*) ;", api.Size, 3007},
		{long + "$", api.Lex, 3000}, {long + "REAL", api.Real, 3000}, {long + "y $", api.Size, 3000},
		{long + "100000", api.Lex, 3000}, {long + "(*", api.Lex, 3000},
		{strings.Repeat(" ", api.MaxSource), api.Fine, 0}, {strings.Repeat(" ", api.MaxSource+1), api.Size, api.MaxSource},
		{"$" + strings.Repeat("x", 100000), api.Size, api.MaxSource},
	} {
		got, err := All(c.src)
		code, at, ok := diag.Find(err)
		if code != c.code || at != c.at || ok != (c.code != api.Fine) || ok && got != nil {
			t.Errorf("P3.1: %.20q: %d at %d, want %d at %d", c.src, code, at, c.code, c.at)
		}
	}
}

func TestEveryByte(t *testing.T) {
	begins := " \t\n\r:.<>=+-*/()[],;ABCDEFGHIJKLMNOPQRSTUVWXYZabcdefghijklmnopqrstuvwxyz0123456789"
	for b := range 256 {
		_, err := All(string([]byte{byte(b)}))
		if (err == nil) != strings.Contains(begins, string([]byte{byte(b)})) {
			t.Errorf("P3.1: byte %d: %v", b, err)
		}
	}
}

func TestKeys(t *testing.T) {
	all := strings.Fields(keys)
	if len(all) != 65 {
		t.Fatal(len(all))
	}
	for _, k := range all {
		if !IsKey(k) || IsKey(strings.ToLower(k)) || IsKey(k+"_") || IsKey(" "+k) {
			t.Errorf("P3.1: IsKey(%q)", k)
		}
		got, err := All(k)
		if strings.HasSuffix(k, "REAL") {
			if got != nil || err == nil {
				t.Errorf("P3.1: %q: %v", k, got)
			}
		} else if err != nil || !slices.Equal(got, []api.Token{key(k, 0)}) {
			t.Errorf("P3.1: %q: %v, %v", k, got, err)
		}
	}
	if IsKey("") || IsKey("x") || IsKey(";") || IsKey("END") {
		t.Error("P3.1: IsKey")
	}
}
