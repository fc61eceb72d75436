package tests

import (
	"fmt"
	"math/rand/v2"
	"strings"
	"testing"

	"loop.example/g01317/impl"
)

func TestPromise9ConstantsOfDesks(t *testing.T) {
	if impl.MaxScript != 16000 {
		t.Error("constants of chapter 8 are not as they are told")
	}
}

// checkText checks a text that a function has to return.
func checkText(t *testing.T, what, got string, ok bool, want string) {
	t.Helper()
	if !ok || got != want {
		t.Errorf("%s: got %.300q, %v, want %.300q", what, got, ok, want)
	}
}

// checkSchemeText checks both that a scheme has a text, and that it is read from it.
func checkSchemeText(t *testing.T, s impl.Scheme, text string) {
	t.Helper()
	got, ok := impl.SchemeText(s)
	checkText(t, "SchemeText", got, ok, text)
	back, ok := impl.ReadScheme(text)
	if !ok || toldScheme(back) != toldScheme(s) {
		t.Errorf("ReadScheme of %q: %v, %v, want %v", text, back, ok, s)
	}
}

func checkPictureText(t *testing.T, p impl.Picture, text string) {
	t.Helper()
	got, ok := impl.PictureText(p)
	checkText(t, "PictureText", got, ok, text)
	back, ok := impl.ReadPicture(text)
	checkPicture(t, fmt.Sprintf("ReadPicture of %.60q", text), back, ok, p)
}

func checkCodedText(t *testing.T, c impl.Coded, text string) {
	t.Helper()
	got, ok := impl.CodedText(c)
	checkText(t, "CodedText", got, ok, text)
	back, ok := impl.ReadCoded(text)
	if !ok || codedSeen(back) != codedSeen(c) {
		t.Errorf("ReadCoded of %.60q: %.100s, %v", text, codedSeen(back), ok)
	}
}

func TestPromise9TextsByHand(t *testing.T) {
	checkSchemeText(t, impl.LinesScheme(), "bf000000,3e800000;3f800000")
	checkSchemeText(t, impl.Scheme{Weights: numbersOf(minusZeroBits), Scale: number(1)}, "80000000;00000001")
	checkSchemeText(t, impl.Scheme{Weights: numbersOf(0, 0x7f7fffff, 0xff7fffff, 0x80000001), Scale: number(0x7f7fffff)}, "00000000,7f7fffff,ff7fffff,80000001;7f7fffff")
	checkSchemeText(t, impl.Scheme{Weights: list(8, float32(1)), Scale: 2}, "3f800000"+strings.Repeat(",3f800000", 7)+";40000000")
	checkPictureText(t, pictureOf(1, 1, number(minusZeroBits)), "1,1;80000000")
	checkPictureText(t, pictureOf(1, 2, 1, 2), "1,2;3f800000,40000000")
	checkPictureText(t, pictureOf(2, 1, number(0x7f7fffff), number(1)), "2,1;7f7fffff,00000001")
	checkPictureText(t, pictureOf(16, 16, list(256, float32(-1))...), "16,16;bf800000"+strings.Repeat(",bf800000", 255))
	checkPictureText(t, pictureOf(3, 16, list(48, float32(0))...), "3,16;00000000"+strings.Repeat(",00000000", 47))
	checkCodedText(t, codedOf(1, 0, ""), "1,0;")
	checkCodedText(t, codedOf(2, 2, "100111"), "2,2;100111")
	checkCodedText(t, codedOf(128, 24, "0"), "128,24;0")
	checkCodedText(t, codedOf(1, 0, "01"), "1,0;01")
	for _, count := range []int{32767, 32768} {
		checkCodedText(t, impl.Coded{Count: 128, Top: 24, Bits: list(count, true)}, "128,24;"+strings.Repeat("1", count))
		checkCodedText(t, impl.Coded{Count: 10, Top: 9, Bits: list(count, false)}, "10,9;"+strings.Repeat("0", count))
	}
}

func TestPromise9TextsAreReadBack(t *testing.T) {
	r := rand.New(rand.NewPCG(51, 8))
	for range 3000 {
		d := anyDesk(r)
		checkSchemeText(t, d.Scheme, toldScheme(d.Scheme))
		checkPictureText(t, d.Picture, toldPicture(d.Picture))
		checkCodedText(t, d.Coded, toldCoded(d.Coded))
	}
}

func TestPromise9PartsWithoutTexts(t *testing.T) {
	for _, s := range wrongSchemes() {
		text, ok := impl.SchemeText(s)
		checkNone(t, fmt.Sprint("SchemeText of ", s), ok, text)
		checkNoScheme(t, toldScheme(s))
	}
	for _, p := range wrongPictures() {
		text, ok := impl.PictureText(p)
		checkNone(t, fmt.Sprint("PictureText of ", p), ok, text)
		checkNotRead(t, toldPicture(p))
	}
	for _, c := range wrongCodes() {
		text, ok := impl.CodedText(c)
		checkNone(t, "CodedText", ok, text)
		checkNoCode(t, toldCoded(c))
	}
}

func checkNoScheme(t *testing.T, text string) {
	t.Helper()
	if s, ok := impl.ReadScheme(text); ok || toldScheme(s) != toldScheme(impl.Scheme{}) {
		t.Errorf("ReadScheme of %.60q: %v, %v", text, s, ok)
	}
}

func checkNotRead(t *testing.T, text string) {
	t.Helper()
	p, ok := impl.ReadPicture(text)
	checkNoPicture(t, fmt.Sprintf("ReadPicture of %.60q", text), p, ok)
}

func checkNoCode(t *testing.T, text string) {
	t.Helper()
	if c, ok := impl.ReadCoded(text); ok || codedSeen(c) != codedSeen(impl.Coded{}) {
		t.Errorf("ReadCoded of %.60q: %.100s, %v", text, codedSeen(c), ok)
	}
}

func TestPromise9TextsOfNoSchemes(t *testing.T) {
	for _, text := range append(oddTexts(),
		";", "3f800000;", ";3f800000", "none;3f800000", "3f800000;none", "none;none", // missing
		"3f800000;;3f800000", ";3f800000;3f800000", "3f800000;3f800000;", "3f800000;3f800000;3f800000", "3f800000,3f800000;;", // doubled
		"3f8000003f800000", "3f80000;03f800000", "3f8000003;f800000", "3f800000,;3f800000", ",3f800000;3f800000", "3f800000;,3f800000", "3f800000;3f800000,", "bf000000;3e800000,3f800000", "bf000000,3e800000,3f800000", "bf000000:3f800000", "bf000000;3e80000;", // moved
		"7f800000;3f800000", "ff800000;3f800000", "7fc00000;3f800000", "3f800000,7fc00000;3f800000", "7f800001;3f800000", "3f800000;7f800000", "3f800000;ff800000", "3f800000;7fc00000", "3f800000;7f800001", // not finite
		"3f800000;00000000", "3f800000;80000000", "3f800000;80000001", "3f800000;bf800000", // not greater than 0
		"3f800000"+strings.Repeat(",3f800000", 8)+";3f800000", "3f800000"+strings.Repeat(",3f800000", 256)+";3f800000",
		" 3f800000;3f800000", "3f800000 ;3f800000", "3f800000; 3f800000", "3f800000;3f800000 ", "3f800000;3f800000\n", "3F800000;3f800000", "3f800000;3F800000", "1;1", "1,1;3f800000", "2,2;100111", "3f800000\x00;3f800000", "3f800000;3f800000\x00",
	) {
		checkNoScheme(t, text)
	}
}

func TestPromise9TextsOfNoPictures(t *testing.T) {
	for _, text := range append(oddTexts(),
		";", "1,1", "1,1;", ";00000000", "1,1;none", "none;00000000", "1;00000000", "1,;00000000", ",1;00000000", // missing
		"1,1;;00000000", ";1,1;00000000", "1,1;00000000;", "1,,1;00000000", "1,1,1;00000000", "1;1;00000000", "1,1;00000000;00000000", // doubled
		"1,100000000", "1,10;0000000", "1;1,00000000", "1,1,00000000", "1,1,;00000000", "1,1;,00000000", "1,1;00000000,", "2,1;00000000;00000000", "00000000;1,1", "1,1:00000000", // moved
		"1,1;7f800000", "1,1;ff800000", "1,1;7fc00000", "1,1;7f800001", "1,2;00000000,7f800000", // not finite
		"0,0;none", "0,1;none", "1,0;none", "0,1;00000000", "-1,-1;00000000", "-1,1;00000000", "1,2;00000000", "2,1;00000000", "1,1;00000000,00000000", "2,2;00000000,00000000,00000000", // not as many pixels
		"17,1;00000000"+strings.Repeat(",00000000", 16), "1,17;00000000"+strings.Repeat(",00000000", 16), "32,8;00000000"+strings.Repeat(",00000000", 255), "16,16;00000000"+strings.Repeat(",00000000", 254), "16,16;00000000"+strings.Repeat(",00000000", 256), "17,16;00000000"+strings.Repeat(",00000000", 271),
		"01,1;00000000", "1,01;00000000", "+1,1;00000000", "1,+1;00000000", "1 ,1;00000000", "1, 1;00000000", " 1,1;00000000", "1,1; 00000000", "1,1;00000000 ", "1,1;00000000\n", "1.0,1;00000000", "4294967297,1;00000000", "18446744073709551617,1;00000000", "1,1;0", "1,1;0000000G", "1,1;0000000A",
	) {
		checkNotRead(t, text)
	}
}

func TestPromise9TextsOfNoCodes(t *testing.T) {
	for _, text := range append(oddTexts(),
		";", "2,2", "2,2100111", ";100111", "none;100111", "2;100111", "2,;1", ",2;1", "1,1;none", // missing
		"2,2;;100111", ";2,2;100111", "2,2;100111;", "2,,2;1", "2,2,2;1", "2;2;1", "2,2;100;111", // doubled
		"2;2,100111", "2,2,;1", "2,2;,1", "2,2;1,0", "2,2:1", "100111;2,2", "2;,21", // moved
		"0,0;", "0,1;1", "-1,1;1", "129,1;1", "1,-1;", "1,25;1", "1000000000000001,1;1", "1,1000000000000001;1", "18446744073709551617,1;1",
		"01,1;1", "1,01;1", "+1,1;1", "1,-0;", "1,0x1;1", " 1,1;1", "1, 1;1", "1,1; 1", "1,1;1 ", "1,1;1\n", "1,1;2", "1,1;x", "1,1;-1", "1,1;１", "1,1;10a", "1,1;1\x00", "1,1;tf", "1,1;\xff",
		"1,1;"+strings.Repeat("0", 32769), "128,24;"+strings.Repeat("1", 40000),
	) {
		checkNoCode(t, text)
	}
}

// Texts that are cut or have a byte changed are read only if they are texts of something else.
func TestPromise9ChangedTexts(t *testing.T) {
	r := rand.New(rand.NewPCG(52, 8))
	for range 40 {
		d := anyDesk(r)
		d.Picture = anyPicture(r, 1+r.Int64N(3), 1+r.Int64N(3), lightNumbers)
		for _, text := range []string{toldScheme(d.Scheme), toldPicture(d.Picture), toldCoded(d.Coded)} {
			for at := range min(len(text), 80) {
				changed := []byte(text)
				changed[at] = ";,01-9af \n\xff\x00"[r.IntN(12)]
				for _, other := range []string{text[:at], text[at+1:], text[:at] + text[at+1:], text[:at] + text[at:at+1] + text[at:], string(changed)} {
					checkAnyText(t, other)
				}
			}
		}
	}
}

// checkAnyText checks what any text tells, if it tells something.
func checkAnyText(t *testing.T, text string) {
	t.Helper()
	s, ok := impl.ReadScheme(text)
	if want, found := toldReadScheme(text); ok != found || ok && toldScheme(s) != toldScheme(want) {
		t.Errorf("ReadScheme of %q: %v, %v", text, s, ok)
	}
	p, ok := impl.ReadPicture(text)
	if want, found := toldReadPicture(text); ok != found || ok && pictureSeen(p) != pictureSeen(want) {
		t.Errorf("ReadPicture of %q: %v, %v", text, p, ok)
	}
	c, ok := impl.ReadCoded(text)
	if want, found := toldReadCoded(text); ok != found || ok && codedSeen(c) != codedSeen(want) {
		t.Errorf("ReadCoded of %q: %v, %v", text, c, ok)
	}
}
