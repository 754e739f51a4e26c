package word

import (
	"bytes"
	"encoding/hex"
	"fmt"
	"math"
	"math/big"
	"math/rand"
	"reflect"
	"strings"
	"testing"

	"shuntyard/api"
)

// The model reads the fields out of the document's own words, reckons places as great numbers, and writes bytes as texts of digits.

const fieldWords = `INum R N; IMove R S; IBin R S K; INot R; IOnes R S; ILoad R S K N; IGet R N; ISet R N; IRoom R N To; ILess R S To; IEqual R S To; IJump To; ICall R S K N; IPut R K; ITail R; IExit R; IDrop; IPort R`

// modelFields tells the fields of the instruction op, and whether there is one.
func modelFields(op int) (string, bool) {
	all := strings.Split(fieldWords, "; ")
	if op < 1 || op > len(all) {
		return "", false
	}
	_, fields, _ := strings.Cut(all[op-1], " ")
	return " " + fields + " ", true
}

func modelName(op int) string {
	name, _, _ := strings.Cut(strings.Split(fieldWords, "; ")[op-1], " ")
	return name
}

func great(n int) *big.Int { return big.NewInt(int64(n)) }

func greatPlain(n uint64) *big.Int { return new(big.Int).SetUint64(n) }

// between asks whether n is from least to most.
func between(n *big.Int, least, most int) bool {
	return n.Cmp(great(least)) >= 0 && n.Cmp(great(most)) <= 0
}

// slotsThere asks whether many slots from a place on are all there; where they would be none, the place is at most behind the last one.
func slotsThere(p api.Program, from, many int) bool {
	behind := new(big.Int).Add(great(from), great(many))
	return between(great(from), 0, p.Slots) && between(behind, 0, p.Slots)
}

// modelForm asks for all that is ErrForm of an instruction.
func modelForm(p api.Program, ins api.Ins) bool {
	fields, ok := modelFields(ins.Op)
	if !ok {
		return false
	}
	v := reflect.ValueOf(ins)
	for _, name := range []string{"R", "S", "K", "To", "N"} {
		has := strings.Contains(fields, " "+name+" ")
		if !has && !v.FieldByName(name).IsZero() {
			return false
		}
		register := name == "R" || name == "S" && modelName(ins.Op) != "ICall"
		if has && register && !between(great(int(v.FieldByName(name).Int())), 0, 9) {
			return false
		}
	}
	if ins.To < 0 {
		return false
	}
	n := greatPlain(ins.N)
	switch modelName(ins.Op) {
	case "IBin":
		return strings.Contains(" 3 4 5 6 7 8 9 10 11 12 ", fmt.Sprintf(" %d ", ins.K))
	case "ILoad":
		return between(great(ins.K), 1, 8) && between(n, 0, 600)
	case "IPut":
		return between(great(ins.K), 1, 8)
	case "IRoom":
		return between(n, 0, 600)
	case "IGet", "ISet":
		return between(n, 0, p.Slots-1)
	case "ICall":
		if !between(n, 0, len(p.Tabs)-1) {
			return false
		}
		t := p.Tabs[int(n.Int64())]
		return slotsThere(p, ins.S, t.Keys) && slotsThere(p, ins.K, t.Args)
	}
	return true
}

// modelJump asks whether an instruction leads to one that there is, if it leads anywhere.
func modelJump(p api.Program, at int) bool {
	fields, _ := modelFields(p.Code[at].Op)
	if !strings.Contains(fields, " To ") {
		return true
	}
	next := new(big.Int).Add(great(at+1), great(p.Code[at].To))
	return between(next, at+1, len(p.Code)-1)
}

// modelFaults tells all that is wrong, in the document's order. (Of a program with so many instructions only that.)
func modelFaults(p api.Program) []api.Fault {
	var l []api.Fault
	add := func(wrong bool, code, at int) {
		if wrong {
			l = append(l, fault(code, at))
		}
	}
	add(p.Slots < 0 || p.Slots > 96, api.ErrRange, -1)
	add(len(p.Tabs) > 5, api.ErrMany, -1)
	add(len(p.Code) == 0 || len(p.Code) > 60000, api.ErrMany, -1)
	for i, t := range p.Tabs {
		add(t.Keys < 1 || t.Keys > 3, api.ErrRange, -2-i)
		add(t.Acts < 1 || t.Acts > 8, api.ErrRange, -2-i)
		add(t.Args < 0 || t.Args > 3, api.ErrRange, -2-i)
	}
	if len(l) > 0 {
		return l
	}
	for i, ins := range p.Code {
		add(!modelForm(p, ins), api.ErrForm, i)
		add(!modelJump(p, i), api.ErrJump, i)
	}
	last := len(p.Code) - 1
	op := p.Code[last].Op
	add(op != 16 && op != 17, api.ErrEnd, last)
	return l
}

func modelCheck(p api.Program) api.Fault {
	return append(modelFaults(p), right)[0]
}

// modelBytes tells bytes by way of a text of digits.
func modelBytes(p api.Program) []byte {
	var s strings.Builder
	fmt.Fprintf(&s, "535701%02x%02x", p.Slots, len(p.Tabs))
	for _, t := range p.Tabs {
		fmt.Fprintf(&s, "%02x%02x%02x", t.Keys, t.Acts, t.Args)
	}
	fmt.Fprintf(&s, "%04x", len(p.Code))
	for _, i := range p.Code {
		fmt.Fprintf(&s, "%02x%02x%02x%02x%04x%016x", i.Op, i.R, i.S, i.K, i.To, i.N)
	}
	b, err := hex.DecodeString(s.String())
	if err != nil {
		panic(err)
	}
	return b
}

// modelDecode tells the program of bytes by way of a text of digits.
func modelDecode(b []byte) (api.Program, api.Fault) {
	s := hex.EncodeToString(b)
	short := fault(api.ErrShort, len(b))
	if len(s) < 10 {
		return api.Program{}, short
	}
	if !strings.HasPrefix(s, "535701") {
		return api.Program{}, fault(api.ErrForm, 0)
	}
	s = s[6:]
	enough := true
	take := func(digits int) (n uint64) {
		if enough = enough && digits <= len(s); enough {
			fmt.Sscanf(s[:digits], "%x", &n)
			s = s[digits:]
		}
		return n
	}
	small := func(digits int) int { return int(take(digits)) }
	var p api.Program
	p.Slots = small(2)
	for range small(2) {
		p.Tabs = append(p.Tabs, api.Shape{Keys: small(2), Acts: small(2), Args: small(2)})
	}
	for range small(4) {
		p.Code = append(p.Code, api.Ins{Op: small(2), R: small(2), S: small(2), K: small(2), To: small(4), N: take(16)})
		if !enough {
			break
		}
	}
	switch {
	case !enough:
		return api.Program{}, short
	case s != "":
		return api.Program{}, fault(api.ErrForm, len(b)-len(s)/2)
	}
	if f := modelCheck(p); f != right {
		return api.Program{}, f
	}
	return p, right
}

// someInstruction tells one that may stand there, as many as behind being behind it.
func someInstruction(r *rand.Rand, p api.Program, behind int) api.Ins {
	for {
		ins := api.Ins{Op: 1 + r.Intn(18)}
		fields, _ := modelFields(ins.Op)
		if strings.Contains(fields, " R ") {
			ins.R = r.Intn(10)
		}
		if strings.Contains(fields, " S ") {
			ins.S = r.Intn(10)
		}
		if strings.Contains(fields, " To ") {
			if behind == 0 {
				continue
			}
			ins.To = r.Intn(behind)
		}
		switch ins.Op {
		case api.INum:
			ins.N = r.Uint64() >> r.Intn(64)
		case api.IBin:
			ins.K = api.PAdd + r.Intn(10)
		case api.ILoad:
			ins.K, ins.N = 1+r.Intn(8), uint64(r.Intn(601))
		case api.IPut:
			ins.K = 1 + r.Intn(8)
		case api.IRoom:
			ins.N = uint64(r.Intn(601))
		case api.IGet, api.ISet:
			if p.Slots == 0 {
				continue
			}
			ins.N = uint64(r.Intn(p.Slots))
		case api.ICall:
			if len(p.Tabs) == 0 || p.Slots < 3 {
				continue
			}
			n := r.Intn(len(p.Tabs))
			ins.N = uint64(n)
			ins.S = r.Intn(p.Slots - p.Tabs[n].Keys + 1)
			ins.K = r.Intn(p.Slots - p.Tabs[n].Args + 1)
		}
		return ins
	}
}

// someProgram tells a right one.
func someProgram(r *rand.Rand) api.Program {
	p := api.Program{Slots: r.Intn(97)}
	if r.Intn(2) == 0 {
		p.Slots = r.Intn(5)
	}
	for range r.Intn(6) {
		p.Tabs = append(p.Tabs, api.Shape{Keys: 1 + r.Intn(3), Acts: 1 + r.Intn(8), Args: r.Intn(4)})
	}
	many := 1 + r.Intn(20)
	for i := range many - 1 {
		p.Code = append(p.Code, someInstruction(r, p, many-1-i))
	}
	end := api.Ins{Op: api.IDrop}
	if r.Intn(2) == 0 {
		end = api.Ins{Op: api.IExit, R: r.Intn(10)}
	}
	p.Code = append(p.Code, end)
	return p
}

func TestThereAndBack(t *testing.T) {
	r := rand.New(rand.NewSource(1))
	for range 10000 {
		p := someProgram(r)
		before := own(p)
		if f := Check(p); f != right || modelCheck(p) != right {
			t.Fatalf("%v: %+v", f, p)
		}
		b, f := Encode(p)
		if want := modelBytes(p); f != right || !bytes.Equal(b, want) {
			t.Fatalf("%v, %v, want %v: %+v", b, f, want, p)
		}
		q, f := Decode(b)
		if f != right || !alike(q, p) || !alike(p, before) {
			t.Fatalf("%+v, %v, want %+v", q, f, p)
		}
	}
}

// spots tells all numbers and lists in v.
func spots(v reflect.Value) []reflect.Value {
	var l []reflect.Value
	switch v.Kind() {
	case reflect.Struct:
		for i := range v.NumField() {
			l = append(l, spots(v.Field(i))...)
		}
		return l
	case reflect.Slice:
		l = append(l, v)
		for i := range v.Len() {
			l = append(l, spots(v.Index(i))...)
		}
		return l
	}
	return []reflect.Value{v}
}

// upset changes one number or one list.
func upset(r *rand.Rand, v reflect.Value) {
	switch v.Kind() {
	case reflect.Int:
		edges := []int{math.MinInt, math.MinInt + 1, -256, -3, -2, -1, 0, 1, 2, 3, 4, 5, 8, 9, 10, 12, 13, 16, 17, 18, 19, 95, 96, 97, 256, 600, 601, 65536, 1 << 32, math.MaxInt - 1, math.MaxInt}
		v.SetInt(int64(edges[r.Intn(len(edges))]))
	case reflect.Uint64:
		edges := []uint64{0, 1, 2, 5, 95, 96, 97, 600, 601, 1 << 32, 1 << r.Intn(64), math.MaxInt, math.MaxUint64}
		v.SetUint(edges[r.Intn(len(edges))])
	case reflect.Slice:
		l := reflect.MakeSlice(v.Type(), r.Intn(8), 8)
		reflect.Copy(l, v)
		v.Set(l)
	}
}

// Whatever program it is given, Check tells what the model tells, and Encode the same, or bytes that lead back.
func TestCheckOfAnything(t *testing.T) {
	r := rand.New(rand.NewSource(2))
	told := map[int]int{}
	for range 50000 {
		p := someProgram(r)
		for range 1 + r.Intn(3) {
			l := spots(reflect.ValueOf(&p).Elem())
			upset(r, l[r.Intn(len(l))])
		}
		before := own(p)
		f, want := Check(p), modelCheck(p)
		told[f.Code]++
		if f != want {
			t.Fatalf("%v, want %v: %+v", f, want, p)
		}
		b, f := Encode(p)
		if f != want || !alike(p, before) {
			t.Fatalf("Encode: %v, want %v: %+v", f, want, p)
		}
		if want != right {
			if len(b) != 0 {
				t.Fatalf("%v beside %v", b, f)
			}
			continue
		}
		if q, f := Decode(b); f != right || !alike(q, p) {
			t.Fatalf("%+v, %v, want %+v", q, f, p)
		}
	}
	for _, code := range []int{0, api.ErrRange, api.ErrMany, api.ErrForm, api.ErrJump, api.ErrEnd} {
		if told[code] < 100 {
			t.Errorf("the code %d came %d times: %v", code, told[code], told)
		}
	}
}

// wantLikeModel asks Decode for what the model tells, and Encode for the way back; it tells the fault.
func wantLikeModel(t *testing.T, b []byte) api.Fault {
	t.Helper()
	before := bytes.Clone(b)
	got, f := Decode(b)
	want, wantFault := modelDecode(b)
	if f != wantFault || !alike(got, want) || !bytes.Equal(b, before) {
		t.Fatalf("%v: %+v, %v, want %+v, %v", b, got, f, want, wantFault)
	}
	if f == right {
		if back, f := Encode(got); f != right || !bytes.Equal(back, b) {
			t.Fatalf("%v, %v, want %v", back, f, b)
		}
	}
	return f
}

// spoil changes bytes that were right.
func spoil(r *rand.Rand, b []byte) []byte {
	at := r.Intn(len(b))
	if r.Intn(2) == 0 {
		at = r.Intn(min(len(b), 30))
	}
	switch r.Intn(7) {
	case 0:
		return b[:at]
	case 1:
		return append(b, make([]byte, 1+r.Intn(20))...)
	case 2:
		return append(b[:at:at], b[at+1:]...)
	case 3:
		b[at] = byte(r.Intn(256))
	case 4:
		b[at] += byte(1 - 2*r.Intn(2))
	case 5:
		b[max(0, len(b)-14)] = api.INot
	case 6:
		return append([]byte("SW\x01"), make([]byte, 4)...)
	}
	return b
}

func TestDecodeOfAnything(t *testing.T) {
	r := rand.New(rand.NewSource(3))
	told := map[int]int{}
	for range 40000 {
		b := modelBytes(someProgram(r))
		for range 1 + r.Intn(2) {
			if len(b) > 0 {
				b = spoil(r, b)
			}
		}
		told[wantLikeModel(t, b).Code]++
	}
	for _, code := range []int{0, api.ErrRange, api.ErrMany, api.ErrShort, api.ErrForm, api.ErrJump, api.ErrEnd} {
		if told[code] < 100 {
			t.Errorf("the code %d came %d times: %v", code, told[code], told)
		}
	}
}

func TestDecodeOfNoise(t *testing.T) {
	r := rand.New(rand.NewSource(4))
	for range 40000 {
		b := make([]byte, r.Intn(60))
		for i := range b {
			b[i] = byte(r.Intn(256) * r.Intn(2) >> r.Intn(8))
		}
		if r.Intn(4) > 0 {
			copy(b, "SW\x01")
		}
		wantLikeModel(t, b)
	}
}
