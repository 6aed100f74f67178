package rules

import (
	"slices"
	"testing"

	"cupel/api"
	"cupel/target"
)

// images calls look with images, of which most are valid.
func images(look func(i api.Image)) {
	for _, text := range imageTexts() {
		i, _, e := target.Parse(text)
		if e != api.OK {
			continue
		}
		look(i)
		look(api.Image{Code: i.Code, Data: i.Data, Entry: len(i.Code) + 1})
		for at := range i.Code {
			code := slices.Clone(i.Code)
			code[at] ^= 1 << (7 * at % 64)
			look(api.Image{Code: code, Data: i.Data, Entry: i.Entry})
			look(api.Image{Code: i.Code[:at], Data: i.Data, Entry: i.Entry})
		}
	}
	look(api.Image{Code: make([]uint64, api.MaxCode+1)})
	look(api.Image{Data: make([]int64, api.MaxMemory)})
}

// imageTexts are texts of images, and others.
func imageTexts() []string {
	return []string{
		"", "entry", "entry 0;", "entry 1;", "entry 0; fly;", "entry 0; data 5; data 6;", "entry 0; data",
		"entry 2; data -1; set r0, 7; wide r1, 4294967296; load r2, -3(r8); store 4(r8), r2; zero r2, 0; checki r0, 8; subi r3, r0, 1; lt r4, r3, r0; print r4; halt;",
		"entry 0; call 3; print r0; halt; move r0, r1; check r0, r1; jump 6; return; trap;",
	}
}

type validArgs struct{ X api.MInstr }

type validResult struct {
	Valid bool
	E     api.Errno
}

func validCalls(_ *testing.T, look func(c call)) {
	for n := range 4000 {
		x := api.MInstr{Op: n % 55, D: n % 11, A: n % 13 % 11, B: n % 3, Imm: int64(n%7) << (n % 40)}
		look(newCall("Valid",
			func() validArgs { return validArgs{x} },
			func(a validArgs) validResult { return validResult{Valid: target.Valid(a.X)} }))
	}
}

type encodeArgs struct{ L []api.MInstr }

type wordsResult struct {
	Code []uint64
	E    api.Errno
}

func encodeCalls(_ *testing.T, look func(c call)) {
	images(func(i api.Image) {
		args := func() (a encodeArgs) {
			for at := 0; at < len(i.Code); {
				x, next, e := target.Decode(i.Code, at)
				if e != api.OK {
					next = at + 1
				}
				a.L, at = append(a.L, x), next
			}
			return a
		}
		look(newCall("Encode", args, func(a encodeArgs) (r wordsResult) {
			r.Code, r.E = target.Encode(a.L)
			return r
		}))
	})
}

type decodeArgs struct {
	Code []uint64
	At   int
}

type decodeResult struct {
	X    api.MInstr
	Next int
	E    api.Errno
}

func decodeCalls(_ *testing.T, look func(c call)) {
	images(func(i api.Image) {
		for at := -1; at <= min(len(i.Code), 20); at++ {
			look(newCall("Decode",
				func() decodeArgs { return decodeArgs{slices.Clone(i.Code), at} },
				func(a decodeArgs) (r decodeResult) {
					r.X, r.Next, r.E = target.Decode(a.Code, a.At)
					return r
				}))
		}
	})
}

type imageArgs struct{ I api.Image }

func copyOf(i api.Image) api.Image {
	return api.Image{Code: slices.Clone(i.Code), Data: slices.Clone(i.Data), Entry: i.Entry}
}

type checkResult struct{ E api.Errno }

func checkCalls(_ *testing.T, look func(c call)) {
	images(func(i api.Image) {
		look(newCall("Check",
			func() imageArgs { return imageArgs{copyOf(i)} },
			func(a imageArgs) checkResult { return checkResult{target.Check(a.I)} }))
	})
}

type textArgs struct{ Text string }

type parseResult struct {
	I     api.Image
	Place int
	E     api.Errno
}

func parseCalls(_ *testing.T, look func(c call)) {
	for _, text := range imageTexts() {
		for at := range text {
			for _, t := range []string{text, text[:at], text[:at] + ";" + text[at:]} {
				look(newCall("Parse",
					func() textArgs { return textArgs{t} },
					func(a textArgs) (r parseResult) {
						r.I, r.Place, r.E = target.Parse(a.Text)
						return r
					}))
			}
		}
	}
}

type textResult struct {
	Text string
	E    api.Errno
}

func printCalls(_ *testing.T, look func(c call)) {
	images(func(i api.Image) {
		look(newCall("Print",
			func() imageArgs { return imageArgs{copyOf(i)} },
			func(a imageArgs) (r textResult) {
				r.Text, r.E = target.Print(a.I)
				return r
			}))
	})
}
