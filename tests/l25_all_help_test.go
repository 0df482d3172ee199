package tests

import (
	"fmt"
	"math"
	"reflect"
	"strings"
	"testing"
	"unsafe"

	"loop.example/g00070/impl"
)

// allCalls is every function of the program, by its name.
var allCalls = map[string]any{
	"ValOk": impl.ValOk, "ValZero": impl.ValZero, "ValSame": impl.ValSame, "ValOp": impl.ValOp, "ValTurn": impl.ValTurn, "ValPair": impl.ValPair, "ValText": impl.ValText,
	"EntsOk": impl.EntsOk, "EntLive": impl.EntLive, "EntTake": impl.EntTake, "EntGive": impl.EntGive, "EntAhead": impl.EntAhead, "EntList": impl.EntList,
	"IsWord": impl.IsWord, "NameOk": impl.NameOk, "RegOk": impl.RegOk, "RegFind": impl.RegFind, "RegKind": impl.RegKind,
	"WorldOk": impl.WorldOk, "NewWorld": impl.NewWorld, "WorldSame": impl.WorldSame, "Where": impl.Where, "Spawn": impl.Spawn, "Kill": impl.Kill,
	"Put": impl.Put, "Drop": impl.Drop, "Get": impl.Get, "Set": impl.Set, "Match": impl.Match,
	"CmdOk": impl.CmdOk, "Merge": impl.Merge, "Targets": impl.Targets, "Spawns": impl.Spawns,
	"StreamOk": impl.StreamOk, "Send": impl.Send, "Turn": impl.Turn, "Unread": impl.Unread,
	"RealOf": impl.RealOf, "Lex": impl.Lex,
	"Parse": impl.Parse, "TreeOk": impl.TreeOk, "Print": impl.Print, "TreeSame": impl.TreeSame,
	"Check": impl.Check, "KindOf": impl.KindOf, "TopOf": impl.TopOf,
	"Effects": impl.Effects, "EffectOk": impl.EffectOk, "EffJoin": impl.EffJoin, "EffWithin": impl.EffWithin, "Commands": impl.Commands,
	"Compile": impl.Compile, "StateOk": impl.StateOk, "Machine": impl.Machine, "Mean": impl.Mean,
	"GraphOk": impl.GraphOk, "Canon": impl.Canon, "Circle": impl.Circle, "Ahead": impl.Ahead, "Reduced": impl.Reduced,
	"LinearOk": impl.LinearOk, "Linears": impl.Linears, "Linear": impl.Linear,
	"SchedOk": impl.SchedOk, "Members": impl.Members, "Constraints": impl.Constraints,
	"Clashes": impl.Clashes, "Strictly": impl.Strictly, "Apart": impl.Apart,
	"Unordered": impl.Unordered, "MakePlan": impl.MakePlan, "PlanSame": impl.PlanSame, "Stages": impl.Stages,
	"PoolMoves": impl.PoolMoves, "PoolRun": impl.PoolRun, "Running": impl.Running, "Widest": impl.Widest, "Meet": impl.Meet,
	"ClocksOk": impl.ClocksOk, "Times": impl.Times,
	"NewGame": impl.NewGame, "GameOk": impl.GameOk, "Task": impl.Task, "FrameOne": impl.FrameOne,
	"FrameSide": impl.FrameSide, "FrameIn": impl.FrameIn, "Stray": impl.Stray,
	"Change": impl.Change, "Play": impl.Play,
	"Fold": impl.Fold, "Reaches": impl.Reaches, "Prune": impl.Prune, "Sizes": impl.Sizes,
	"Desk": impl.Desk,
}

// some is any arguments, or answers.
type some []reflect.Value

// eachIn goes over all that a value is made of, lists to their ends, or to the end
// of their spare room.
func eachIn(v reflect.Value, room bool, do func(v reflect.Value)) {
	do(v)
	switch v.Kind() {
	case reflect.Struct:
		for i := range v.NumField() {
			eachIn(v.Field(i), room, do)
		}
	case reflect.Slice:
		if room {
			v = v.Slice(0, v.Cap())
		}
		for i := range v.Len() {
			eachIn(v.Index(i), room, do)
		}
	}
}

// copied is a value in memory of its own, with the spare room of its lists.
func copied(v reflect.Value) reflect.Value {
	c := reflect.New(v.Type()).Elem()
	switch v.Kind() {
	case reflect.Struct:
		for i := range v.NumField() {
			c.Field(i).Set(copied(v.Field(i)))
		}
	case reflect.Slice:
		if v.IsNil() {
			return c
		}
		c.Set(reflect.MakeSlice(v.Type(), v.Cap(), v.Cap()))
		for i := range v.Cap() {
			c.Index(i).Set(copied(v.Slice(0, v.Cap()).Index(i)))
		}
		c.SetLen(v.Len())
	case reflect.String:
		c.SetString(strings.Clone(v.String()))
	default:
		c.Set(v)
	}
	return c
}

func (s some) copied() some {
	var c some
	for _, v := range s {
		c = append(c, copied(v))
	}
	return c
}

// roomy is a value in memory of its own, with odd things behind each list.
func roomy(d *dice, v reflect.Value) reflect.Value {
	c := reflect.New(v.Type()).Elem()
	switch v.Kind() {
	case reflect.Struct:
		for i := range v.NumField() {
			c.Field(i).Set(roomy(d, v.Field(i)))
		}
	case reflect.Slice:
		n, more := v.Len(), 1+d.roll(3)
		c.Set(reflect.MakeSlice(v.Type(), n+more, n+more))
		for i := range n {
			c.Index(i).Set(roomy(d, v.Index(i)))
		}
		for i := range more {
			c.Index(n + i).Set(oddOf(d, v.Type().Elem(), 1))
		}
		c.SetLen(n)
	default:
		return copied(v)
	}
	return c
}

func (s some) roomy(d *dice) some {
	var c some
	for _, v := range s {
		c = append(c, roomy(d, v))
	}
	return c
}

// alike tells whether two values are the same; where room is asked for, in their
// spare room as well.
func alike(a, b reflect.Value, room bool) bool {
	switch a.Kind() {
	case reflect.Struct:
		for i := range a.NumField() {
			if !alike(a.Field(i), b.Field(i), room) {
				return false
			}
		}
		return true
	case reflect.Slice:
		if a.Len() != b.Len() || room && a.Cap() != b.Cap() {
			return false
		}
		if room {
			a, b = a.Slice(0, a.Cap()), b.Slice(0, b.Cap())
		}
		for i := range a.Len() {
			if !alike(a.Index(i), b.Index(i), room) {
				return false
			}
		}
		return true
	case reflect.Float64:
		x, y := a.Float(), b.Float()
		return math.Float64bits(x) == math.Float64bits(y) || math.IsNaN(x) && math.IsNaN(y)
	}
	return a.Equal(b)
}

func (s some) alike(other some, room bool) bool {
	for i := range s {
		if !alike(s[i], other[i], room) {
			return false
		}
	}
	return len(s) == len(other)
}

// stretch is a part of the memory, of a list with its spare room or of a text.
type stretch struct {
	from, to uintptr
	list     bool
}

// stretches is the memory that values lie in.
func (s some) stretches() []stretch {
	var all []stretch
	for _, v := range s {
		eachIn(v, true, func(v reflect.Value) {
			at, size := uintptr(0), uintptr(0)
			switch v.Kind() {
			case reflect.Slice:
				at, size = v.Pointer(), uintptr(v.Cap())*v.Type().Elem().Size()
			case reflect.String:
				at, size = uintptr(unsafe.Pointer(unsafe.StringData(v.String()))), uintptr(v.Len())
			}
			if size > 0 {
				all = append(all, stretch{at, at + size, v.Kind() == reflect.Slice})
			}
		})
	}
	return all
}

func (a stretch) meets(b stretch) bool { return a.from < b.to && b.from < a.to }

// shares tells whether some of the memory is the same one; that of texts, which
// nobody can write into, only where it is asked for.
func (s some) shares(other some, texts bool) bool {
	others := other.stretches()
	for _, a := range s.stretches() {
		for _, b := range others {
			if a.meets(b) && (texts || a.list && b.list) {
				return true
			}
		}
	}
	return false
}

// sharesWithin tells whether two of the lists have some memory in common.
func (s some) sharesWithin() bool {
	all := s.stretches()
	for i, a := range all {
		for _, b := range all[i+1:] {
			if a.list && b.list && a.meets(b) {
				return true
			}
		}
	}
	return false
}

// spoilLists writes over all lists, to the end of their spare room.
func (s some) spoilLists() {
	for _, v := range s {
		eachIn(v, true, func(v reflect.Value) {
			if v.Kind() != reflect.Slice {
				return
			}
			list := v.Slice(0, v.Cap())
			for i := range list.Len() {
				spoilLeaves(list.Index(i))
			}
		})
	}
}

// spoilLeaves writes over what lies in the memory itself, not in a list's.
func spoilLeaves(v reflect.Value) {
	switch v.Kind() {
	case reflect.Struct:
		for i := range v.NumField() {
			spoilLeaves(v.Field(i))
		}
	case reflect.Int:
		v.SetInt(-7770777)
	case reflect.Float64:
		v.SetFloat(-7.25)
	case reflect.String:
		v.SetString("?")
	case reflect.Bool:
		v.SetBool(!v.Bool())
	}
}

func (s some) String() string {
	var b strings.Builder
	for i, v := range s {
		fmt.Fprintf(&b, "%d: %.2000s\n", i, fmt.Sprintf("%+v", v))
	}
	return b.String()
}

// toldBy calls a function; a panic is told by its text.
func toldBy(f any, args some) (answers some, panics string) {
	defer func() {
		if p := recover(); p != nil {
			panics = fmt.Sprint("it panics: ", p)
		}
	}()
	return reflect.ValueOf(f).Call(args), ""
}

// faultOf asks a function for its answer several times: by such arguments as
// have odd things behind their lists, and by plain ones. It tells the answers,
// and what is wrong with the function, if anything is.
func faultOf(d *dice, f any, args some) (answers some, fault string) {
	own := args.roomy(d)
	was := own.copied()
	first, panics := toldBy(f, own)
	if panics != "" {
		return nil, panics
	}
	kept := first.copied()
	if !own.alike(was, true) {
		return kept, "it writes into an argument"
	}
	if first.shares(own, true) || first.sharesWithin() {
		return kept, "the answer shares memory"
	}
	second, panics := toldBy(f, args.copied())
	if panics != "" || !second.alike(kept, false) {
		return kept, "the second answer is another one " + panics
	}
	if second.shares(first, false) {
		return kept, "two answers share memory"
	}
	first.spoilLists()
	if !own.alike(was, true) || !second.alike(kept, false) {
		return kept, "what is written into an answer changes others"
	}
	third, panics := toldBy(f, own)
	if panics != "" || !third.alike(kept, false) {
		return kept, "behind an answer that was written into comes another one " + panics
	}
	return kept, ""
}

func called(t *testing.T, d *dice, name string, args some) some {
	t.Helper()
	answer, fault := faultOf(d, allCalls[name], args)
	if fault != "" {
		t.Fatalf("%s: %s\n%v\n%v", name, fault, args, answer)
	}
	return answer
}

// faultSharing asks also for the answer where the arguments lie in memory that
// they may have in common.
func faultSharing(f any, args, want some) string {
	was := args.copied()
	answer, panics := toldBy(f, args)
	if panics != "" || !answer.alike(want, false) {
		return "where arguments share memory there is another answer " + panics
	}
	if !args.alike(was, true) {
		return "arguments that share memory are changed"
	}
	if answer.shares(args, false) || answer.sharesWithin() {
		return "where arguments share memory the answer shares it, too"
	}
	return ""
}

func calledSharing(t *testing.T, d *dice, name string, args some) some {
	t.Helper()
	answer := called(t, d, name, args)
	if fault := faultSharing(allCalls[name], args, answer); fault != "" {
		t.Fatalf("%s: %s\n%v\n%v", name, fault, args, answer)
	}
	return answer
}

// short tells answers with a "-" for each zero value, and of structs the fields
// that are not.
func (s some) short() string {
	var words []string
	for _, v := range s {
		words = append(words, shortOf(v))
	}
	return strings.Join(words, " ")
}

func shortOf(v reflect.Value) string {
	if alike(v, reflect.Zero(v.Type()), false) {
		return "-"
	}
	var words []string
	switch v.Kind() {
	case reflect.Struct:
		for i := range v.NumField() {
			if word := shortOf(v.Field(i)); word != "-" {
				words = append(words, v.Type().Field(i).Name+":"+word)
			}
		}
		return "{" + strings.Join(words, " ") + "}"
	case reflect.Slice:
		for i := range v.Len() {
			words = append(words, shortOf(v.Index(i)))
		}
		return "[" + strings.Join(words, " ") + "]"
	}
	return fmt.Sprint(v)
}
