package descr_test

import (
	"fmt"
	"math"
	"regexp"
	"slices"
	"strings"
	"testing"
	"unsafe"

	"warpbeam/api"
	"warpbeam/descr"
)

// noKinds are numbers that are no kind's, such as are one only if cut short, too.
func noKinds() []int {
	return []int{-1, -2, -3, -6, 7, 8, 9, 127, 128, 255, 256, 257, 259, 262, 1 << 31, 1 << 32, 1<<32 + 1, 1<<32 + 3, -1<<32 + 2, math.MinInt64, math.MinInt64 + 3, math.MaxInt64}
}

func ref(name string) api.Type  { return api.Type{Kind: api.KindRef, Name: name} }
func refs(name string) api.Type { return api.Type{Kind: api.KindRefs, Name: name} }

var (
	void = api.Type{}
	one  = api.Type{Kind: api.KindInt}
	two  = api.Type{Kind: api.KindLong}
	ones = api.Type{Kind: api.KindInts}
	twos = api.Type{Kind: api.KindLongs}
	most = strings.Repeat("n", 64)
	none = api.Proto{}
)

func proto(ret api.Type, args ...api.Type) api.Proto {
	return api.Proto{Ret: ret, Args: args}
}

// goodNames are names of all lengths that count, with all that a name may have.
func goodNames() []string {
	l := []string{"a", "Z", "_", "$", "a1", "$0", "__", "A9z", "I", "J", "L", "V", "LI", "VV", "Object", "a$1", strings.Repeat("b", 63), most, "_" + strings.Repeat("0", 63), strings.Repeat("$", 64)}
	for c := range 128 {
		if nameByte(byte(c)) {
			l = append(l, "x"+string(rune(c)), "xy"+string(rune(c)), string(rune(c))+"x"+string(rune(c)))
		}
	}
	return slices.DeleteFunc(l, func(s string) bool { return s[0] >= '0' && s[0] <= '9' })
}

// badNames are no names, each for one thing.
func badNames() []string {
	l := []string{"", "1", "1a", "9", "0_", strings.Repeat("n", 65), strings.Repeat("n", 66), strings.Repeat("n", 1000), strings.Repeat("é", 3), most + ";", most + "\x00", "a b", "a-", "a.b", "a/b", "a:b", "a;", "a[", "[a", "a(", "(a", "a)", " a", "a ", "a\n", "\na", "a\x00", "\x00", "é", "aé", "ä", "aß", "a\u212A", "\u017F", "a\u0661", "\u0661", "a\uFF11", "a\uFF21", "\U0001D400", "a\U0010FFFF", "\uFFFD", "a\uFFFD"}
	for c := range 256 {
		if !nameByte(byte(c)) {
			l = append(l, string([]byte{byte(c)}), string([]byte{'a', byte(c)}), string([]byte{byte(c), 'a'}), string([]byte{'a', byte(c), 'a'}), strings.Repeat("n", 63)+string([]byte{byte(c)}))
		}
	}
	return append(l, "\xC3", "a\xC3", "a\xC3a", "\xED\xA0\x80", "a\xED\xA0\x80", "\xC1\xA1", "a\xC1\xA1", "\xE0\x81\xA1", "\xFF\xFE", "a\xF0\x80\x81\xA1")
}

// nameByte tells whether a byte may stand in a name, written out by the document's words.
func nameByte(c byte) bool {
	return strings.IndexByte("ABCDEFGHIJKLMNOPQRSTUVWXYZabcdefghijklmnopqrstuvwxyz0123456789_$", c) >= 0
}

// line is a type and how it is written.
type line struct {
	t api.Type
	s string
}

// goodTypes are types that may be.
func goodTypes() []line {
	l := []line{{one, "I"}, {two, "J"}, {ones, "[I"}, {twos, "[J"}}
	for _, name := range goodNames() {
		l = append(l, line{ref(name), "L" + name + ";"}, line{refs(name), "[L" + name + ";"})
	}
	return l
}

// badTypes are types that may not be; the zero one aside, as it may stand where a proto answers nothing.
func badTypes() []api.Type {
	l := []api.Type{void, ref(""), refs("")}
	for _, kind := range append(noKinds(), 0) {
		l = append(l, api.Type{Kind: kind}, api.Type{Kind: kind, Name: "a"}, api.Type{Kind: kind, Name: "1"})
	}
	for _, kind := range []int{1, 2, 4, 5} {
		l = append(l, api.Type{Kind: kind, Name: "a"}, api.Type{Kind: kind, Name: "I"}, api.Type{Kind: kind, Name: "1"}, api.Type{Kind: kind, Name: "\x00"}, api.Type{Kind: kind, Name: most}, api.Type{Kind: kind, Name: most + "n"})
	}
	for _, name := range badNames() {
		l = append(l, ref(name), refs(name))
	}
	return slices.DeleteFunc(l, func(t api.Type) bool { return t == void })
}

// row is a proto and how it is written.
type row struct {
	p api.Proto
	s string
}

// goodProtos are protos that may be.
func goodProtos() []row {
	l := []row{
		{none, "()V"}, {proto(one), "()I"}, {proto(two), "()J"}, {proto(void, one), "(I)V"}, {proto(void, two, one), "(JI)V"}, {proto(one, ones, twos), "([I[J)I"}, {proto(ref("V")), "()LV;"},
		{proto(void, one, twos, ref("b")), "(I[JLb;)V"}, {proto(refs("a"), ref("a"), refs("a"), ref("b")), "(La;[La;Lb;)[La;"}, {proto(ref("L"), refs("V"), ref("I")), "([LV;LI;)LL;"},
	}
	for _, c := range goodTypes() {
		l = append(l, row{proto(c.t), "()" + c.s}, row{proto(void, c.t), "(" + c.s + ")V"}, row{proto(c.t, c.t, one, c.t), "(" + c.s + "I" + c.s + ")" + c.s})
	}
	for _, c := range []line{{one, "I"}, {two, "J"}, {refs(most), "[L" + most + ";"}} {
		for _, count := range []int{2, 15, 16} {
			l = append(l, row{proto(void, slices.Repeat([]api.Type{c.t}, count)...), "(" + strings.Repeat(c.s, count) + ")V"})
			l = append(l, row{proto(c.t, slices.Repeat([]api.Type{c.t}, count)...), "(" + strings.Repeat(c.s, count) + ")" + c.s})
		}
	}
	return l
}

// show is as much of a type, of a proto as can be looked at.
func show(x any) string {
	return fmt.Sprintf("%.200s", fmt.Sprintf("%#v", x))
}

func wantType(t *testing.T, x api.Type, s string) {
	t.Helper()
	if e := descr.CheckType(x); e != api.OK {
		t.Fatalf("CheckType(%s): %d", show(x), e)
	}
	if w, e := descr.WriteType(x); w != s || e != api.OK {
		t.Fatalf("WriteType(%s): %q, %d; want %q", show(x), w, e, s)
	}
	if r, e := descr.Type(s); r != x || e != api.OK {
		t.Fatalf("Type(%q): %s, %d; want %s", s, show(r), e, show(x))
	}
}

func wantNoType(t *testing.T, x api.Type) {
	t.Helper()
	if e := descr.CheckType(x); e != api.ErrArg {
		t.Fatalf("CheckType(%s): %d", show(x), e)
	}
	if w, e := descr.WriteType(x); w != "" || e != api.ErrArg {
		t.Fatalf("WriteType(%s): %.80q, %d", show(x), w, e)
	}
}

func wantProto(t *testing.T, p api.Proto, s string) {
	t.Helper()
	if e := descr.CheckProto(p); e != api.OK {
		t.Fatalf("CheckProto(%s): %d", show(p), e)
	}
	if w, e := descr.WriteProto(p); w != s || e != api.OK {
		t.Fatalf("WriteProto(%s): %q, %d; want %q", show(p), w, e, s)
	}
	if r, e := descr.Proto(s); !same(r, p) || e != api.OK {
		t.Fatalf("Proto(%q): %s, %d; want %s", s, show(r), e, show(p))
	}
}

func wantNoProto(t *testing.T, p api.Proto, want api.Errno) {
	t.Helper()
	if e := descr.CheckProto(p); e != want {
		t.Fatalf("CheckProto(%s): %d; want %d", show(p), e, want)
	}
	if w, e := descr.WriteProto(p); w != "" || e != want {
		t.Fatalf("WriteProto(%s): %.80q, %d; want %d", show(p), w, e, want)
	}
}

// same tells whether two protos are alike, as the document says it.
func same(a, b api.Proto) bool {
	return a.Ret == b.Ret && slices.Equal(a.Args, b.Args)
}

func wantTypeFault(t *testing.T, s string) {
	t.Helper()
	if x, e := descr.Type(s); x != void || e != api.ErrType {
		t.Fatalf("Type(%.80q): %s, %d", s, show(x), e)
	}
}

func wantProtoFault(t *testing.T, s string) {
	t.Helper()
	if p, e := descr.Proto(s); p.Ret != void || len(p.Args) != 0 || e != api.ErrType {
		t.Fatalf("Proto(%.80q): %s, %d", s, show(p), e)
	}
}

func TestP51Examples(t *testing.T) {
	wantProto(t, proto(void, one, twos, ref("b")), "(I[JLb;)V")
	if !descr.IsName("a$1") || descr.IsName("1a") {
		t.Error("a$1 is a name, 1a is none")
	}
}

func TestP51EachKind(t *testing.T) {
	for _, c := range []line{{one, "I"}, {two, "J"}, {ref("a"), "La;"}, {ones, "[I"}, {twos, "[J"}, {refs("a"), "[La;"}} {
		wantType(t, c.t, c.s)
		wantProto(t, proto(c.t), "()"+c.s)
		wantProto(t, proto(void, c.t), "("+c.s+")V")
		wantProto(t, proto(c.t, c.t, c.t), "("+c.s+c.s+")"+c.s)
	}
	wantProto(t, none, "()V")
	wantProto(t, api.Proto{Args: []api.Type{}}, "()V")
}

func TestP51Names(t *testing.T) {
	for _, s := range goodNames() {
		if !descr.IsName(s) {
			t.Fatalf("%q is a name", s)
		}
		wantType(t, ref(s), "L"+s+";")
		wantType(t, refs(s), "[L"+s+";")
	}
	for _, s := range badNames() {
		if descr.IsName(s) {
			t.Fatalf("%.80q is no name", s)
		}
		wantNoType(t, ref(s))
		wantNoType(t, refs(s))
	}
}

func TestP51NameLengths(t *testing.T) {
	for _, count := range []int{0, 1, 2, 3, 62, 63, 64, 65, 66, 127, 128, 129, 255, 256, 257, 320, 65600} {
		for _, c := range []string{"n", "_", "$", "Q"} {
			if descr.IsName(strings.Repeat(c, count)) != (count >= 1 && count <= 64) {
				t.Errorf("%d times %s", count, c)
			}
		}
		// 22 characters of three bytes are more than 64 bytes; whatever their number, they are no name's.
		if descr.IsName(strings.Repeat("\u20AC", count)) {
			t.Errorf("%d times a character of three bytes", count)
		}
	}
}

// Each character is looked at, wherever it stands.
func TestP51NameCharacters(t *testing.T) {
	for r := rune(0); r <= 0x10FFFF; r++ {
		later := r < 128 && nameByte(byte(r))
		first := later && (r < '0' || r > '9')
		s := string(r)
		if descr.IsName(s) != first || descr.IsName(s+"a") != first || descr.IsName("a"+s) != later || descr.IsName("aa"+s+"a") != later {
			t.Fatalf("character %x", r)
		}
	}
	for at := range 64 {
		for c := range 256 {
			name := []byte(most)
			name[at] = byte(c)
			if descr.IsName(string(name)) != (nameByte(byte(c)) && (at > 0 || c < '0' || c > '9')) {
				t.Fatalf("byte %x at %d", c, at)
			}
		}
	}
}

func TestP51TypesThatMayNotBe(t *testing.T) {
	wantNoType(t, void)
	for _, x := range badTypes() {
		wantNoType(t, x)
	}
}

func TestP51ProtosThatMayNotBe(t *testing.T) {
	for _, bad := range badTypes() {
		wantNoProto(t, proto(bad), api.ErrArg)
		wantNoProto(t, proto(bad, one, ref("a")), api.ErrArg)
		for _, p := range []api.Proto{proto(void, bad), proto(one, bad, one), proto(void, two, ref("a"), bad), proto(bad, bad)} {
			wantNoProto(t, p, api.ErrArg)
		}
	}
	// Nothing is handed in by KindVoid; and the zero type is what a proto answers only if it is zero.
	wantNoProto(t, proto(void, void), api.ErrArg)
	wantNoProto(t, proto(one, one, void), api.ErrArg)
	wantNoProto(t, proto(api.Type{Name: "a"}), api.ErrArg)
	wantNoProto(t, proto(api.Type{Name: "V"}, one), api.ErrArg)
	for at := range 16 {
		for _, bad := range []api.Type{void, {Name: "a"}, {Kind: 7}, {Kind: -1}, {Kind: 1, Name: "a"}, ref("")} {
			args := slices.Repeat([]api.Type{one}, 16)
			args[at] = bad
			wantNoProto(t, proto(void, args...), api.ErrArg)
		}
	}
}

func TestP51HowManyArguments(t *testing.T) {
	for count := range 40 {
		p := proto(void, slices.Repeat([]api.Type{one}, count)...)
		if count <= 16 {
			wantProto(t, p, "("+strings.Repeat("I", count)+")V")
			continue
		}
		wantNoProto(t, p, api.ErrLimit)
	}
	wantNoProto(t, proto(void, slices.Repeat([]api.Type{two}, 1<<16)...), api.ErrLimit)
}

// How many there are is looked at ahead of what they are.
func TestP51WhichFirst(t *testing.T) {
	for _, bad := range append(badTypes(), void) {
		for _, at := range []int{0, 8, 15, 16} {
			args := slices.Repeat([]api.Type{ones}, 17)
			args[at] = bad
			wantNoProto(t, proto(void, args...), api.ErrLimit)
			wantNoProto(t, proto(api.Type{Kind: 7}, args...), api.ErrLimit)
			if at < 16 {
				wantNoProto(t, proto(void, args[:16]...), api.ErrArg)
			}
		}
	}
	wantNoProto(t, proto(api.Type{Name: "a"}, make([]api.Type, 17)...), api.ErrLimit)
	wantNoProto(t, proto(api.Type{Name: "a"}, make([]api.Type, 16)...), api.ErrArg)
}

// What a type and a proto look like, written out by the document's words; how long names are, and how many arguments there are, is looked at beside it.
const typeForm = `\[?(?:I|J|L[A-Za-z_$][A-Za-z0-9_$]*;)`

var (
	eachForm  = regexp.MustCompile(typeForm)
	typeOnly  = regexp.MustCompile(`\A` + typeForm + `\z`)
	protoOnly = regexp.MustCompile(`\A\(((?:` + typeForm + `)*)\)(` + typeForm + `|V)\z`)
)

// modelType is what Type is to answer.
func modelType(s string) (api.Type, bool) {
	if !typeOnly.MatchString(s) {
		return void, false
	}
	short := strings.TrimPrefix(s, "[")
	t := api.Type{Kind: strings.IndexByte("IJL", short[0]) + 1 + 3*(len(s)-len(short))}
	if short[0] == 'L' {
		t.Name = short[1 : len(short)-1]
	}
	return t, len(t.Name) <= 64
}

// modelProto is what Proto is to answer.
func modelProto(s string) (api.Proto, bool) {
	parts := protoOnly.FindStringSubmatch(s)
	if parts == nil {
		return none, false
	}
	var p api.Proto
	fine := true
	for _, arg := range eachForm.FindAllString(parts[1], -1) {
		t, ok := modelType(arg)
		p.Args = append(p.Args, t)
		fine = fine && ok
	}
	if parts[2] != "V" {
		t, ok := modelType(parts[2])
		p.Ret = t
		fine = fine && ok
	}
	if !fine || len(p.Args) > 16 {
		return none, false
	}
	return p, true
}

// wantRead holds Type and Proto against the model, and what they read against what is written.
func wantRead(t *testing.T, s string) {
	t.Helper()
	if x, ok := modelType(s); ok {
		wantType(t, x, s)
	} else {
		wantTypeFault(t, s)
	}
	if p, ok := modelProto(s); ok {
		wantProto(t, p, s)
	} else {
		wantProtoFault(t, s)
	}
}

func TestP52Examples(t *testing.T) {
	wantType(t, one, "I")
	wantType(t, refs("a"), "[La;")
	for _, s := range []string{"V", "[[I", "L;", "II"} {
		wantTypeFault(t, s)
	}
	wantProto(t, proto(void, one, twos, ref("b")), "(I[JLb;)V")
}

func TestP52GoodTexts(t *testing.T) {
	for _, c := range goodTypes() {
		wantType(t, c.t, c.s)
		wantProtoFault(t, c.s)
	}
	for _, c := range goodProtos() {
		wantProto(t, c.p, c.s)
		wantTypeFault(t, c.s)
	}
}

func TestP52NoTypes(t *testing.T) {
	for _, s := range []string{
		"", "V", "[", "[V", "[[I", "[[J", "[[La;", "[[[I", "L", "L;", "[L;", "[L", "La", "[La", "La;;", "La;b", "La;I", "LaI", "L1;", "L1a;", "L a;", "La b;", "L[I;", "LLa;;", "L(;", "La", ";", "a;", "a", "I;", "I[", "J[I", "IJ", "IV", "VI", "I ", " I", "I\x00", "\x00I", "i", "j", "la;", "v", "B", "C", "D", "F", "S", "Z", "0", "1", "()V", "(I", "I)", "]", "I]",
		"\u0049\u0301", "\uFF29", "L\u0430;", "L\xC3;", "L\xFF;", "\xFF", "[\xC9", "La\x00;", "La.b;", "La/b;", "La-b;", "L:;", "L$.;",
	} {
		wantTypeFault(t, s)
		wantRead(t, "("+s+")")
		wantRead(t, "("+s+")V")
		wantRead(t, "()"+s)
	}
	for _, name := range badNames() {
		wantTypeFault(t, "L"+name+";")
		wantTypeFault(t, "[L"+name+";")
		wantProtoFault(t, "(L"+name+";)V")
		wantProtoFault(t, "([L"+name+";I)V")
		wantProtoFault(t, "()L"+name+";")
	}
}

func TestP52NoProtos(t *testing.T) {
	for _, s := range []string{
		"", "(", ")", "()", ")(", "()(", "V", "()VV", "()II", "()IV", "()VI", "()V ", " ()V", "( )V", "() V", "()V\x00", "()[V", "([V)V", "(V)V", "(V)I", "(IV)V", "(VI)V", "(IVI)V", "I()V", "()[[I", "([[I)V", "([)V", "([)I", "()[", "()L", "()L;", "()La", "(L)V", "(L;)V", "(La)V", "(La)V;", "(LaV;", "(La;V", "La;)V", "I)V", ")V", "(V", "(IV", "(I", "(I)", "((I)V", "(I))V", "((I))V", "(()V)V", "()()V", "()V()V", "(I)V(I)V", "()LV", "()v", "()[v", "(i)V", "(I,I)V", "(I;)V", "(I;I)V", "(I)V;", "()La;;", "()La;V", "[()V", "[]V", "()]", "(La;b)V", "(L(;)V", "(L);)V", "(L)V;",
	} {
		wantProtoFault(t, s)
		wantTypeFault(t, s)
	}
	// A name goes up to the next ;, and a ) ahead of that does not end it.
	wantProtoFault(t, "(La)La;")
	wantProtoFault(t, "(La)Lb;)V")
}

func TestP52HowManyArguments(t *testing.T) {
	for _, c := range []line{{one, "I"}, {two, "J"}, {ones, "[I"}, {twos, "[J"}, {ref("a"), "La;"}, {refs(most), "[L" + most + ";"}} {
		for count := range 40 {
			for _, ret := range []string{"V", "I", "[La;", c.s} {
				s := "(" + strings.Repeat(c.s, count) + ")" + ret
				if count > 16 {
					wantProtoFault(t, s)
					continue
				}
				x, _ := modelType(ret)
				wantProto(t, proto(x, slices.Repeat([]api.Type{c.t}, count)...), s)
			}
		}
	}
}

// spoilt calls f with a text that is cut at each place, that has one character less, one more, another one at each place.
func spoilt(s string, f func(string)) {
	for at := range len(s) + 1 {
		f(s[:at])
		f(s[at:])
		for _, c := range []string{"I", "J", "L", "V", "[", ";", "(", ")", "a", "Z", "_", "$", "1", "0", " ", "-", ".", "/", ":", "\x00", "\x7F", "\x80", "\xC3", "\xFF", "é", "\uFF29", "[[", "La;", ")V", "()"} {
			f(s[:at] + c + s[at:])
			if at < len(s) {
				f(s[:at] + c + s[at+1:])
			}
		}
		if at < len(s) {
			f(s[:at] + s[at+1:])
			f(s[:at] + s[at:at+1] + s[at:])
		}
	}
}

func TestP52Spoilt(t *testing.T) {
	for _, c := range []string{"I", "J", "[I", "[J", "La;", "[La;", "Lab1;", "[L$_Z9;", "L" + most + ";", "[L" + most + ";", "()V", "(I)V", "(J)I", "(I[JLb;)V", "([La;LV;)[La;", "(LI;JLJ;)LL;", "(" + strings.Repeat("I", 16) + ")V", "(" + strings.Repeat("[J", 16) + ")[J", "(L" + most + ";)[L" + most + ";"} {
		wantRead(t, c)
		spoilt(c, func(s string) { wantRead(t, s) })
	}
}

func TestP52EachByte(t *testing.T) {
	for _, s := range []string{"I", "[J", "Lab;", "[La;", "()V", "([La;J)I"} {
		for at := range s {
			for c := range 256 {
				wantRead(t, s[:at]+string([]byte{byte(c)})+s[at+1:])
				wantRead(t, s[:at]+string([]byte{byte(c)})+s[at:])
				wantRead(t, s+string([]byte{byte(c)}))
			}
		}
	}
}

// texts calls f with each text of at most so many of these characters.
func texts(telling string, most int, f func(string)) {
	var fill func(s string)
	fill = func(s string) {
		f(s)
		if len(s) == most {
			return
		}
		for _, r := range telling {
			fill(s + string(r))
		}
	}
	fill("")
}

func TestP52AllShortTexts(t *testing.T) {
	all := func(s string) { wantRead(t, s) }
	texts("IJVL[;()a1", 4, all)
	texts("I[()V", 6, all)
	texts("L;a[1", 6, all)
	texts("IL;a", 4, func(s string) {
		wantRead(t, "("+s+")V")
		wantRead(t, "("+s+")"+s)
	})
	texts("IJ[V", 4, func(s string) {
		for _, ret := range []string{"", "V", "I", "[J", "[V", "[[I"} {
			wantRead(t, "("+s+")"+ret)
		}
	})
}

// However long a text is, it is left where it is wrong, or read to its end.
func TestP52LongTexts(t *testing.T) {
	for _, c := range []string{"I", "[", "(", ")", "L", ";", "La;", "V", "a", "[I", "\xFF", "([", "L;", "()V"} {
		long := strings.Repeat(c, 1<<20)
		for _, s := range []string{long, "[" + long, "L" + long, "L" + long + ";", "(" + long, "(" + long + ")V", "(L" + long, "()" + long, "(I" + long} {
			wantTypeFault(t, s)
			wantProtoFault(t, s)
		}
	}
}

func TestP53Examples(t *testing.T) {
	p, _ := descr.Proto("(JI)I")
	if descr.Words(two) != 2 || descr.ArgWords(p) != 3 {
		t.Errorf("%d, %d", descr.Words(two), descr.ArgWords(p))
	}
}

func TestP53WordsAndVal(t *testing.T) {
	for _, c := range []struct{ kind, words, val int }{
		{api.KindVoid, 0, api.ValNone}, {api.KindInt, 1, api.ValInt}, {api.KindLong, 2, api.ValLong}, {api.KindRef, 1, api.ValRef},
		{api.KindInts, 1, api.ValRef}, {api.KindLongs, 1, api.ValRef}, {api.KindRefs, 1, api.ValRef},
	} {
		// A kind alone is looked at, whatever name stands beside it.
		for _, name := range []string{"", "a", "1", most + "n", "\xFF"} {
			x := api.Type{Kind: c.kind, Name: name}
			if descr.Words(x) != c.words || descr.Val(x) != c.val {
				t.Fatalf("%s: %d words, kind %d", show(x), descr.Words(x), descr.Val(x))
			}
		}
	}
	for _, kind := range noKinds() {
		for _, name := range []string{"", "a"} {
			if x := (api.Type{Kind: kind, Name: name}); descr.Words(x) != 0 || descr.Val(x) != 0 {
				t.Fatalf("%s: %d words, kind %d", show(x), descr.Words(x), descr.Val(x))
			}
		}
	}
}

func TestP53ArgWords(t *testing.T) {
	for _, c := range []struct {
		p api.Proto
		n int
	}{
		{none, 0}, {proto(two), 0}, {proto(two, one), 1}, {proto(one, two), 2}, {proto(void, ref("a")), 1}, {proto(void, ones), 1}, {proto(void, twos), 1}, {proto(void, refs("a")), 1},
		{proto(void, two, two, one, ref("a"), twos, two), 9}, {proto(void, slices.Repeat([]api.Type{two}, 16)...), 32}, {proto(void, slices.Repeat([]api.Type{one}, 16)...), 16},
		// Of protos that may not be, too.
		{proto(void, void), 0}, {proto(void, void, one, api.Type{Kind: 7}, two, api.Type{Kind: -1, Name: "a"}), 3}, {proto(void, ref(""), refs("1"), api.Type{Kind: api.KindLong, Name: "x"}), 4}, {proto(void, slices.Repeat([]api.Type{two}, 1000)...), 2000},
	} {
		if n := descr.ArgWords(c.p); n != c.n {
			t.Errorf("ArgWords(%s): %d; want %d", show(c.p), n, c.n)
		}
	}
	for _, kind := range noKinds() {
		if n := descr.ArgWords(proto(one, api.Type{Kind: kind}, two, api.Type{Kind: kind})); n != 2 {
			t.Errorf("kind %d: %d", kind, n)
		}
	}
}

func TestP53ElemAndOver(t *testing.T) {
	for _, name := range []string{"", "a", "1", "Object", most, most + "n", "\xFF", "[I"} {
		for single, array := range map[int]int{api.KindInt: api.KindInts, api.KindLong: api.KindLongs, api.KindRef: api.KindRefs} {
			less, more := api.Type{Kind: single, Name: name}, api.Type{Kind: array, Name: name}
			if x, ok := descr.Elem(more); x != less || !ok {
				t.Fatalf("Elem(%s): %s, %t", show(more), show(x), ok)
			}
			if x, ok := descr.Over(less); x != more || !ok {
				t.Fatalf("Over(%s): %s, %t", show(less), show(x), ok)
			}
			if x, ok := descr.Elem(less); x != void || ok {
				t.Fatalf("Elem(%s): %s, %t", show(less), show(x), ok)
			}
			if x, ok := descr.Over(more); x != void || ok {
				t.Fatalf("Over(%s): %s, %t", show(more), show(x), ok)
			}
		}
		for _, kind := range append(noKinds(), api.KindVoid) {
			x, ok := descr.Elem(api.Type{Kind: kind, Name: name})
			y, yes := descr.Over(api.Type{Kind: kind, Name: name})
			if x != void || ok || y != void || yes {
				t.Fatalf("kind %d: %s, %t, %s, %t", kind, show(x), ok, show(y), yes)
			}
		}
	}
}

func wantSame(t *testing.T, a, b api.Proto, want bool) {
	t.Helper()
	if descr.SameProto(a, b) != want || descr.SameProto(b, a) != want {
		t.Fatalf("SameProto(%s, %s): not %t", show(a), show(b), want)
	}
}

// otherTypes are types that differ from one in one thing.
func otherTypes(x api.Type) []api.Type {
	l := []api.Type{{Kind: x.Kind, Name: x.Name + "x"}, {Kind: x.Kind, Name: "x" + x.Name}, {Kind: x.Kind + 256, Name: x.Name}, {Kind: x.Kind + 1<<32, Name: x.Name}}
	for kind := -1; kind <= 8; kind++ {
		if kind != x.Kind {
			l = append(l, api.Type{Kind: kind, Name: x.Name})
		}
	}
	if x.Name != "" {
		l = append(l, api.Type{Kind: x.Kind}, api.Type{Kind: x.Kind, Name: strings.ToUpper(x.Name) + "_"}, api.Type{Kind: x.Kind, Name: x.Name[1:]})
	}
	return l
}

func TestP53SameProto(t *testing.T) {
	wantSame(t, none, api.Proto{Args: []api.Type{}}, true)
	for _, p := range []api.Proto{none, proto(one), proto(void, one), proto(ref("a"), one, two, ref("b"), refs("c")), proto(refs("abc"), slices.Repeat([]api.Type{ref("q")}, 16)...), proto(api.Type{Kind: 9, Name: "x"}, void, api.Type{Kind: -4}), proto(void, slices.Repeat([]api.Type{twos}, 40)...)} {
		wantSame(t, p, p, true)
		wantSame(t, p, proto(p.Ret, slices.Clone(p.Args)...), true)
		for _, x := range otherTypes(p.Ret) {
			wantSame(t, p, proto(x, p.Args...), false)
		}
		for at, arg := range p.Args {
			for _, x := range otherTypes(arg) {
				args := slices.Clone(p.Args)
				args[at] = x
				wantSame(t, p, proto(p.Ret, args...), false)
			}
			wantSame(t, p, proto(p.Ret, p.Args[:at]...), false)
			wantSame(t, p, proto(p.Ret, slices.Delete(slices.Clone(p.Args), at, at+1)...), false)
			wantSame(t, p, proto(p.Ret, slices.Insert(slices.Clone(p.Args), at, arg)...), false)
		}
		wantSame(t, p, proto(p.Ret, append(slices.Clone(p.Args), void)...), false)
	}
	wantSame(t, proto(void, one, two), proto(void, two, one), false)
	wantSame(t, proto(one, two), proto(two, one), false)
	wantSame(t, proto(one), proto(void, one), false)
	wantSame(t, proto(ref("a"), ref("b")), proto(ref("b"), ref("a")), false)
}

// Names are held against each other by what they say, not by where they lie.
func TestP53SameProtoByNames(t *testing.T) {
	a := proto(ref(strings.Clone("abc")), refs(strings.Clone("abc")))
	b := proto(ref(strings.Clone("abc")), refs(strings.Clone("abc")))
	wantSame(t, a, b, true)
	for _, c := range goodProtos() {
		for _, d := range goodProtos()[:40] {
			wantSame(t, c.p, d.p, c.s == d.s)
		}
	}
}

// askAll calls all that take types and protos.
func askAll(p, q api.Proto) {
	descr.CheckProto(p)
	descr.WriteProto(p)
	descr.ArgWords(p)
	descr.SameProto(p, q)
	descr.SameProto(q, p)
	for _, x := range append(slices.Clone(p.Args), p.Ret) {
		descr.CheckType(x)
		descr.WriteType(x)
		descr.Words(x)
		descr.Val(x)
		descr.Elem(x)
		descr.Over(x)
		descr.IsName(x.Name)
	}
}

func TestP54Untouched(t *testing.T) {
	l := []api.Proto{none, proto(void, badTypes()[:10]...), proto(one, badTypes()[:40]...)}
	for _, c := range goodProtos() {
		l = append(l, c.p)
	}
	for i, p := range l {
		whole := append(slices.Clone(p.Args), ref("spare"), two, api.Type{Kind: 7})
		before := slices.Clone(whole)
		askAll(api.Proto{Ret: p.Ret, Args: whole[:len(p.Args)]}, l[(i+1)%len(l)])
		if !slices.Equal(whole, before) {
			t.Fatalf("what was handed in has become %s; it was %s", show(whole), show(before))
		}
	}
}

// What stands in the spare room is no part of a proto.
func TestP54SpareRoom(t *testing.T) {
	whole := []api.Type{one, two, ref("a"), {Kind: 7}}
	for count, s := range []string{"()V", "(I)V", "(IJ)V", "(IJLa;)V"} {
		p := api.Proto{Args: whole[:count]}
		wantProto(t, p, s)
		if n := descr.ArgWords(p); n != []int{0, 1, 3, 4}[count] {
			t.Errorf("%s: %d words", s, n)
		}
		wantSame(t, p, api.Proto{Args: slices.Clone(whole[:count])}, true)
		wantSame(t, p, api.Proto{Args: whole[:count+1]}, false)
	}
	wantNoProto(t, proto(void, whole...), api.ErrArg)
}

func TestP54NewLists(t *testing.T) {
	const s = "(I[JLb;)La;"
	want := proto(ref("a"), one, twos, ref("b"))
	first, _ := descr.Proto(s)
	second, _ := descr.Proto(s)
	whole := first.Args[:cap(first.Args)]
	clear(whole)
	if !same(second, want) {
		t.Errorf("two answers share memory: %v", second)
	}
	third, _ := descr.Proto(s)
	_ = append(third.Args, two, two)
	if !same(second, want) || !same(third, want) {
		t.Errorf("two answers share memory: %v, %v", second, third)
	}
	wantProto(t, want, s)
}

// within tells whether a text lies in the memory of another one.
func within(s string, in []byte) bool {
	from, at := uintptr(unsafe.Pointer(unsafe.SliceData(in))), uintptr(unsafe.Pointer(unsafe.StringData(s)))
	return len(s) > 0 && at >= from && at < from+uintptr(cap(in))
}

// kept is a text, and the memory in which it lies.
func kept(s string) (string, []byte) {
	memory := []byte(s)
	return unsafe.String(&memory[0], len(memory)), memory
}

func TestP54NewTexts(t *testing.T) {
	want := func(memory []byte, told ...string) {
		t.Helper()
		for i, s := range told {
			if s == "" || within(s, memory) {
				t.Errorf("text %d, %q, lies in what was handed in", i, s)
			}
		}
	}
	for _, c := range []string{"Lname;", "[Lname;"} {
		s, memory := kept(c)
		x, _ := descr.Type(s)
		want(memory, x.Name)
	}
	s, memory := kept("(Lname;[Lother;)Lthird;")
	p, _ := descr.Proto(s)
	want(memory, p.Ret.Name, p.Args[0].Name, p.Args[1].Name)
	clear(memory)
	if !same(p, proto(ref("third"), ref("name"), refs("other"))) {
		t.Errorf("what was answered changes with what was handed in: %v", p)
	}
	name, memory := kept("name")
	written, _ := descr.WriteType(ref(name))
	whole, _ := descr.WriteProto(proto(ref(name), refs(name)))
	elem, _ := descr.Elem(refs(name))
	over, _ := descr.Over(ref(name))
	want(memory, written, whole, elem.Name, over.Name)
}

func TestP55WrittenIsRead(t *testing.T) {
	for _, c := range goodTypes() {
		s, e := descr.WriteType(c.t)
		x, f := descr.Type(s)
		if e != api.OK || f != api.OK || x != c.t {
			t.Fatalf("%s is written %q, %d, and read %s, %d", show(c.t), s, e, show(x), f)
		}
	}
	for _, c := range goodProtos() {
		s, e := descr.WriteProto(c.p)
		p, f := descr.Proto(s)
		if e != api.OK || f != api.OK || !same(p, c.p) || !descr.SameProto(p, c.p) {
			t.Fatalf("%s is written %q, %d, and read %s, %d", show(c.p), s, e, show(p), f)
		}
	}
}

// mixed are numbers below a bound, that hang on the first one alone.
func mixed(seed int) func(below int) int {
	at := uint32(seed)
	return func(below int) int {
		at = at*1664525 + 1013904223
		return int(at>>8) % below
	}
}

func mixedType(next func(int) int) api.Type {
	names := goodNames()
	x := api.Type{Kind: 1 + next(6)}
	if x.Kind == api.KindRef || x.Kind == api.KindRefs {
		x.Name = names[next(len(names))]
	}
	return x
}

func TestP55MixedProtos(t *testing.T) {
	for seed := range 3000 {
		next := mixed(seed)
		var p api.Proto
		want := "("
		for range next(17) {
			x := mixedType(next)
			s, _ := descr.WriteType(x)
			p.Args = append(p.Args, x)
			want += s
		}
		end := "V"
		if next(4) > 0 {
			p.Ret = mixedType(next)
			end, _ = descr.WriteType(p.Ret)
		}
		wantProto(t, p, want+")"+end)
		wantRead(t, want+")"+end)
	}
}

func TestP55ReadIsWritten(t *testing.T) {
	telling := []string{"I", "J", "V", "[", "La;", "LI;", "L", ";", "(", ")", ")V", ")I", "a", "1"}
	types, protos := 0, 0
	for seed := range 60000 {
		next := mixed(seed)
		s := []string{"", "(", "(", "()"}[next(4)]
		for range next(5) {
			s += telling[next(len(telling))]
		}
		wantRead(t, s)
		if x, e := descr.Type(s); e == api.OK {
			types++
			if w, f := descr.WriteType(x); w != s || f != api.OK {
				t.Fatalf("%q is read %s, and written %q, %d", s, show(x), w, f)
			}
		}
		if p, e := descr.Proto(s); e == api.OK {
			protos++
			if w, f := descr.WriteProto(p); w != s || f != api.OK {
				t.Fatalf("%q is read %s, and written %q, %d", s, show(p), w, f)
			}
		}
	}
	if types < 500 || protos < 500 {
		t.Errorf("just %d types, %d protos", types, protos)
	}
}

func TestP56NoBeginning(t *testing.T) {
	l := goodTypes()
	written := make([]string, len(l))
	for i, c := range l {
		written[i], _ = descr.WriteType(c.t)
	}
	for i, s := range written {
		for j, longer := range written {
			if l[i].t != l[j].t && strings.HasPrefix(longer, s) {
				t.Fatalf("%q begins with %q", longer, s)
			}
		}
		for at := range s {
			wantTypeFault(t, s[:at])
		}
		for c := range 128 {
			wantTypeFault(t, s+string(rune(c)))
		}
	}
	for _, s := range written {
		for _, behind := range []string{"I", "La;", "[J"} {
			wantTypeFault(t, s+behind)
		}
	}
}

func TestP56ElemTakesBackOver(t *testing.T) {
	for _, kind := range []int{api.KindInt, api.KindLong, api.KindRef} {
		for _, name := range append(goodNames(), badNames()...) {
			x := api.Type{Kind: kind, Name: name}
			over, ok := descr.Over(x)
			back, yes := descr.Elem(over)
			if !ok || !yes || back != x || over == x {
				t.Fatalf("%s: %s, %t, and back %s, %t", show(x), show(over), ok, show(back), yes)
			}
			again, ok := descr.Over(back)
			if !ok || again != over {
				t.Fatalf("%s: %s, %t", show(back), show(again), ok)
			}
		}
	}
	for _, c := range goodTypes() {
		if over, ok := descr.Over(c.t); ok {
			wantType(t, over, "["+c.s)
		}
	}
}
