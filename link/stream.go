package link

import (
	"wayfarer/api"
	"wayfarer/deflate"
	"wayfarer/inflate"
	"wayfarer/wire"
)

// streamOf is an instruction's form, made smaller.
func streamOf(x api.Instruction) ([]byte, api.Errno) {
	form, e := wire.Write(x)
	if e != api.OK {
		return nil, e
	}
	if len(form) > api.MaxBytes {
		return nil, api.ErrArg
	}
	return deflate.Deflate(form)
}

// instructionOf is the instruction that such a stream tells, whole.
func instructionOf(stream []byte) (api.Instruction, api.Errno) {
	form, used, e := inflate.Inflate(stream, api.MaxBytes)
	if e != api.OK {
		return api.Instruction{}, e
	}
	if used != len(stream) {
		return api.Instruction{}, api.ErrForm
	}
	return wire.Read(form)
}
