package syntax

import (
	"slices"
	"strings"
	"testing"

	"governor/api"
	"governor/diag"
	"governor/lex"
)

const (
	keys = "INTERFACE END_INTERFACE CLASS END_CLASS PROGRAM END_PROGRAM METHOD END_METHOD TASK INTERVAL PRIORITY EXTENDS IMPLEMENTS ABSTRACT FINAL OVERRIDE" +
		" VAR AT IN OUT INT BOOL ARRAY OF REF_TO REF TON TOF TP CTU CTD R_TRIG F_TRIG TRUE FALSE NULL THIS SUPER AS NOT AND OR XOR MOD" +
		" IF THEN ELSIF ELSE END_IF CASE END_CASE WHILE DO END_WHILE FOR TO BY END_FOR RETURN EXIT STEP DONE COUNT"
	signs      = ":= ?= .. <> <= >= + - * / = < > ( ) [ ] , ; : ."
	everyToken = keys + " " + signs + " x 5"
	declFirst  = "INTERFACE CLASS PROGRAM TASK"
	stmtFirst  = "IF CASE WHILE FOR RETURN EXIT STEP THIS SUPER x"
	exprFirst  = "- NOT TRUE FALSE NULL THIS SUPER REF DONE COUNT AS ( x 5"
)

// within is a source that is at a limit, and one that is short of it. What goes on behind both is told of
// alike, but for the tokens of first: behind the full one these are told of with the code.
type within struct {
	short, full, first string
	code               int
}

// many is a limit of how many there may be.
func many(head string, one string, most int, first string) within {
	return within{head + strings.Repeat(one, most-1), head + strings.Repeat(one, most), first, api.Size}
}

// atLast is what is told of a source at its last token, which follows a blank; Fine, if nothing is told there.
func atLast(src string, read func(string) error) int {
	code, at, _ := diag.Find(read(src))
	if at != strings.LastIndex(src, " ")+1 {
		return api.Fine
	}
	return code
}

// eachToken holds what is told of each token behind a full source.
func eachToken(t *testing.T, l within, read func(string) error) {
	t.Helper()
	first := strings.Fields(l.first)
	for _, token := range strings.Fields(everyToken) {
		begins := slices.Contains(first, token)
		less, got := atLast(l.short+token, read), atLast(l.full+token, read)
		if less != api.Fine && (less != api.Syntax || begins) {
			t.Errorf("P4.2: %q, short of a limit: %d", l.short+token, less)
		}
		want := less
		if begins {
			want = l.code
		}
		if got != want {
			t.Errorf("P4.2: %q: %d at its last token, want %d", l.full+token, got, want)
		}
	}
	if code, at, _ := diag.Find(read(l.full)); code != api.Fine && (code != api.Syntax || at != len(l.full)) {
		t.Errorf("P4.2: %q: %d at %d", l.full, code, at)
	}
}

func TestEveryToken(t *testing.T) {
	for _, token := range strings.Fields(keys) {
		if !lex.IsKey(token) {
			t.Errorf("%s is no word of the language", token)
		}
	}
	if tokens, err := lex.All(everyToken); err != nil || len(tokens) != len(strings.Fields(everyToken)) {
		t.Error(tokens, err)
	}
}

func TestDeclsAtLimit(t *testing.T) {
	for _, one := range []string{"PROGRAM P ; END_PROGRAM ", "INTERFACE I ; END_INTERFACE ", "CLASS C ; END_CLASS ", "TASK T ( INTERVAL 1 , PRIORITY 0 ) : P ; "} {
		eachToken(t, many("", one, api.MaxDecls, declFirst), unitError)
	}
}

// lists are what stands ahead of each list that there is.
var lists = []string{"PROGRAM P ; ", "PROGRAM P ; VAR v : INT ; ", "CLASS C ; METHOD M ( ) ; ", "PROGRAM P ; IF x THEN ", "PROGRAM P ; IF x THEN ELSIF x THEN ",
	"PROGRAM P ; IF x THEN ELSE ", "PROGRAM P ; CASE x OF 1 : ", "PROGRAM P ; CASE x OF 1 : 2 , - 3 : ", "PROGRAM P ; CASE x OF ELSE ", "PROGRAM P ; WHILE x DO ",
	"PROGRAM P ; FOR x := 1 TO 2 BY 1 DO "}

func TestStmtsAtLimit(t *testing.T) {
	for _, head := range lists {
		for _, one := range []string{"EXIT ; ", "x := 1 ; ", "IF x THEN EXIT ; END_IF ; "} {
			eachToken(t, many(head, one, api.MaxStmts, stmtFirst), unitError)
		}
	}
}

func TestParamsAtLimit(t *testing.T) {
	for _, head := range []string{"INTERFACE I ; METHOD M ( ", "CLASS C ; METHOD M ( ", "CLASS C ; METHOD OVERRIDE FINAL M ( "} {
		for _, one := range []string{"a : INT , ", "a : REF_TO C , ", "a : INT ( - 1 .. 1 ) , "} {
			eachToken(t, many(head, one, api.MaxParams, "x"), unitError)
		}
	}
}

func TestFacesAtLimit(t *testing.T) {
	for _, head := range []string{"CLASS C IMPLEMENTS ", "CLASS FINAL C EXTENDS B IMPLEMENTS "} {
		eachToken(t, many(head, "a , ", api.MaxFaces, "x"), unitError)
	}
}

func TestLabelsAtLimit(t *testing.T) {
	for _, head := range []string{"PROGRAM P ; CASE x OF ", "PROGRAM P ; CASE x OF 1 : EXIT ; ", "CLASS C ; METHOD M ( ) ; WHILE x DO CASE x OF - 1 : 2 : "} {
		for _, one := range []string{"1 , ", "- 1 , "} {
			eachToken(t, many(head, one, api.MaxLabels, "- 5"), unitError)
		}
	}
}

func TestArgsAtLimit(t *testing.T) {
	for _, call := range []string{"x . m ( ", "THIS . m ( ", "SUPER . m ( "} {
		for _, one := range []string{"1 , ", "- x , ", "x . m ( ) , ", "( x + 1 ) , "} {
			for _, head := range []string{"", "- ", "1 + ", "( a [ "} {
				eachToken(t, many(head+call, one, api.MaxParams, exprFirst), exprError)
			}
			for _, head := range lists {
				eachToken(t, many(head+call, one, api.MaxParams, exprFirst), unitError)
				eachToken(t, many(head+"x := "+call, one, api.MaxParams, exprFirst), unitError)
			}
		}
	}
}

// inward are ways from an expression, or a statement, into the expression that is nested one deeper.
var inward = []string{"( ", "- ( ", "NOT ( ", "1 + ( ", "a [ ", "1 + a [ ", "AS C ( ", "o . M ( ", "THIS . M ( ", "- SUPER . M ( "}

// outermost are what stands ahead of a statement's expression; each of calls, ahead of one that is nested 2.
var (
	outermost = []string{"x := ", "x [ ", "x [ 1 ] := ", "x ?= ", "IF ", "IF x THEN ELSIF ", "CASE ", "WHILE ", "FOR x := ", "FOR x := 1 TO ", "STEP x ( ", "STEP x ( 1 , "}
	calls     = []string{"o . M ( 1 , ", "THIS . M ( 1 , 2 , ", "SUPER . M ( 1 , "}
)

func deepExpr(head string, one string, most int) within {
	return within{head + strings.Repeat(one, most-1), head + strings.Repeat(one, most), exprFirst, api.Deep}
}

func TestDeepExprsAtLimit(t *testing.T) {
	for _, one := range inward {
		eachToken(t, deepExpr("", one, api.MaxDeep), exprError)
		for _, head := range outermost {
			eachToken(t, deepExpr("PROGRAM P ; "+head, one, api.MaxDeep), unitError)
		}
		for _, head := range calls {
			eachToken(t, deepExpr("PROGRAM P ; "+head, one, api.MaxDeep-1), unitError)
		}
		for _, head := range lists {
			eachToken(t, deepExpr(head+"RETURN x + ( ", one, api.MaxDeep-1), unitError)
		}
	}
}

// TestDeepNone holds of a call that is handed nothing that nothing is too deep.
func TestDeepNone(t *testing.T) {
	for _, call := range []string{"x . m ( ", "THIS . m ( ", "SUPER . m ( "} {
		full := strings.Repeat("( ", api.MaxDeep-1) + call
		eachToken(t, within{strings.Repeat("( ", api.MaxDeep-2) + call, full, exprFirst, api.Deep}, exprError)
		if got := atLast(full+")", exprError); got != api.Fine {
			t.Errorf("P4.2: %q: %d", full+")", got)
		}
	}
}

// TestDeepListsAtLimit holds of each list within a statement with which tokens it begins, or ends where it is empty.
func TestDeepListsAtLimit(t *testing.T) {
	for open, ends := range map[string]string{"WHILE x DO ": "END_WHILE", "FOR x := 1 TO 2 BY - 1 DO ": "END_FOR", "IF x THEN ": "ELSIF ELSE END_IF",
		"CASE x OF 1 : ": "5 - ELSE END_CASE", "CASE x OF 1 , - 1 : ": "5 - ELSE END_CASE", "CASE x OF ELSE ": "END_CASE"} {
		for _, one := range []string{"WHILE x DO ", "IF x THEN ", "IF x THEN ELSIF x THEN EXIT ; ELSE ", "CASE x OF 1 : 2 : ", "CASE x OF 1 : ELSE EXIT ; ", "FOR x := 1 TO 2 BY 1 DO "} {
			for _, head := range []string{"PROGRAM P ; ", "CLASS C ; METHOD M ( ) ; EXIT ; "} {
				short := head + strings.Repeat(one, api.MaxDeep-2)
				eachToken(t, within{short + open, short + one + open, stmtFirst + " " + ends, api.Deep}, unitError)
			}
		}
	}
}

// TestOthersAtLimit holds of methods, variables and alternatives what the tests above hold of the rest.
func TestOthersAtLimit(t *testing.T) {
	for _, l := range []within{
		many("CLASS C ; ", "METHOD M ( ) ; END_METHOD ", api.MaxMethods, "METHOD"), many("INTERFACE I ; ", "METHOD M ( ) : INT ; ", api.MaxMethods, "METHOD"),
		many("CLASS C ; ", "VAR x : INT ; ", api.MaxVars, "VAR"), many("PROGRAM P ; ", "VAR x : INT ; ", api.MaxVars, "VAR"), many("CLASS C ; METHOD M ( ) ; ", "VAR x : INT ; ", api.MaxVars, "VAR"),
		many("PROGRAM P ; IF x THEN ", "ELSIF x THEN ", api.MaxParts-1, "ELSIF"), many("PROGRAM P ; IF x THEN EXIT ; ", "ELSIF x THEN EXIT ; ", api.MaxParts-1, "ELSIF"),
		many("PROGRAM P ; CASE x OF ", "1 : ", api.MaxParts, "5 -"), many("PROGRAM P ; CASE x OF ", "- 1 , 2 : EXIT ; ", api.MaxParts, "5 -"),
	} {
		eachToken(t, l, unitError)
	}
}
