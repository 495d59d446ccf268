package script

import (
	"carryall/answer"
	"carryall/api"
)

// Encode answers the bytes of all operations, one behind the other.
func Encode(l ...Op) []byte {
	var w answer.Writer
	for _, o := range l {
		write(&w, o)
	}
	return w.Bytes()
}

// write writes o.
func write(w *answer.Writer, o Op) {
	w.U8(o.Kind)
	w.U8(o.Flag)
	w.I64(o.H)
	w.I64(o.From)
	w.I64(o.To)
	w.String(o.S)
	w.String(o.T)
	w.String(o.O.Scheme)
	w.String(o.O.Host)
	w.I64(int64(o.O.Port))
	w.I64(o.O.Nonce)
	for _, c := range o.R {
		w.U8(c)
	}
}

// Parse answers the operations whose bytes b is.
func Parse(b []byte) ([]Op, api.Errno) {
	r := answer.NewReader(b)
	var l []Op
	for r.Left() > 0 {
		o := read(r)
		if r.Bad() {
			return nil, api.ErrForm
		}
		l = append(l, o)
	}
	return l, api.OK
}

// read reads an operation.
func read(r *answer.Reader) Op {
	var o Op
	o.Kind = r.U8()
	o.Flag = r.U8()
	o.H = r.I64()
	o.From = r.I64()
	o.To = r.I64()
	o.S = r.String()
	o.T = r.String()
	o.O.Scheme = r.String()
	o.O.Host = r.String()
	o.O.Port = int(r.I64())
	o.O.Nonce = r.I64()
	for k := range o.R {
		o.R[k] = r.U8()
	}
	return o
}

// Bytes answers r's bytes.
func Bytes(r Result) []byte {
	var w answer.Writer
	w.U8(uint8(r.Errno))
	w.I64(r.H)
	w.String(r.S)
	w.String(string(answer.Encode(r.A)))
	return w.Bytes()
}
