package value

import (
	"manorboy/api"
	"manorboy/integer"
	"manorboy/real"
)

// Show returns the text of a value: P7.10.
func Show(v api.Value) (string, api.Errno) {
	switch {
	case !Valid(v):
		return "", api.ErrArg
	case v.Kind == api.TyInt:
		return integer.Print(v.I)
	case v.Kind == api.TyReal:
		return real.Print(v.R)
	case v.B:
		return "true", api.OK
	}
	return "false", api.OK
}

// Read returns the value that a text shows: P7.10.
func Read(text string) (api.Value, api.Errno) {
	// If the text is no number, these are zeros, which have other texts.
	n, _ := integer.Parse(text)
	x, _ := real.Parse(text)
	for _, v := range [...]operand{whole(n), fraction(x), truth(true), truth(false)} {
		if shown, e := Show(api.Value(v)); e == api.OK && shown == text {
			return api.Value(v), api.OK
		}
	}
	return api.Value{}, api.ErrForm
}

// Write returns what an output procedure for values of a type writes: P7.10.
func Write(kind int, v api.Value) (string, api.Errno) {
	converted, e := Convert(kind, v)
	if e != api.OK {
		return "", e
	}
	text, e := Show(converted)
	return text + "\n", e
}
