package tests

import "testing"

// All functions at one time by the same arguments, right and odd ones: nobody
// meets another one, and nobody is left.
func TestAllAtOneTime(t *testing.T) {
	w := newAuthor(288)
	type call struct {
		name string
		args some
		want some
	}
	var calls []call
	right, r := rightCalls(t), anyRights(w)
	for _, name := range allNames() {
		calls = append(calls, call{name, right[name], nil}, call{name, r.anyArguments(&w.dice, name), nil})
	}
	for i, one := range calls {
		calls[i].want, _ = toldBy(allCalls[one.name], one.args)
	}
	atOnce(t, 12, func(i int) string {
		for at := range calls {
			one := calls[(at+i*len(calls)/12)%len(calls)]
			if told, panics := toldBy(allCalls[one.name], one.args); panics != "" || !told.alike(one.want, false) {
				return one.name + " " + panics
			}
		}
		return ""
	})
}
