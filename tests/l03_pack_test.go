package tests

import (
	"slices"
	"strings"
	"testing"

	"loop.example/g00711/impl"
)

const fieldWidth = 28

// codesOf writes the codes of the signs of a name one behind the other, by the rows.
func codesOf(name string) string {
	var text strings.Builder
	for at := range len(name) {
		text.WriteString(letterRows[signOf(name[at])].code)
	}
	return text.String()
}

// firstByRows tells how many first letters of a name fit in one field, and that field.
func firstByRows(name string) (uint32, int) {
	n := len(name)
	for len(codesOf(name[:n])) > fieldWidth {
		n--
	}
	text := codesOf(name[:n])
	return bitsOf(text + strings.Repeat("0", fieldWidth-len(text))), n
}

// packByRows tells what Pack should tell of a name.
func packByRows(name string) []uint32 {
	var fields []uint32
	for name != "" {
		field, n := firstByRows(name)
		fields = append(fields, field)
		name = name[n:]
	}
	return fields
}

// unpackByRows tells what UnpackOne should tell of a field of 28 bits.
func unpackByRows(field uint32) string {
	var name []byte
	for text := bitText(field, fieldWidth); strings.Contains(text, "1"); {
		k, width := decodeByRows(text)
		if k <= 0 {
			break
		}
		name = append(name, letterRows[k].sign)
		text = text[width:]
	}
	return string(name)
}

// nameRow is a name, and its fields written out as texts of bits, whose noughts behind the last letter are left out.
type nameRow struct {
	name   string
	fields []string
}

var nameRows = []nameRow{
	{"r", []string{"0001"}},
	{"?", []string{"1111111"}},
	{"s", []string{"10000"}},
	{"d", []string{"1100000"}},
	{"go", []string{"10101" + "0011"}},
	{"dup", []string{"1100000" + "1100110" + "1100010"}},
	{"2*", []string{"1101010" + "1111101"}},
	{"rtoeani", []string{"0001" + "0010" + "0011" + "0100" + "0101" + "0110" + "0111"}},
	{"rtoeanir", []string{"0001" + "0010" + "0011" + "0100" + "0101" + "0110" + "0111", "0001"}},
	{"rtoeans", []string{"0001" + "0010" + "0011" + "0100" + "0101" + "0110", "10000"}},
	{"rtoeansr", []string{"0001" + "0010" + "0011" + "0100" + "0101" + "0110", "10000" + "0001"}},
	{"rtoeand", []string{"0001" + "0010" + "0011" + "0100" + "0101" + "0110", "1100000"}},
	{"sssss", []string{"10000" + "10000" + "10000" + "10000" + "10000"}},
	{"sssssr", []string{"10000" + "10000" + "10000" + "10000" + "10000", "0001"}},
	{"ssssrr", []string{"10000" + "10000" + "10000" + "10000" + "0001" + "0001"}},
	{"dddd", []string{"1100000" + "1100000" + "1100000" + "1100000"}},
	{"ddddd", []string{"1100000" + "1100000" + "1100000" + "1100000", "1100000"}},
	{"dddsr", []string{"1100000" + "1100000" + "1100000" + "10000", "0001"}},
	{"variable", []string{"1100001" + "0101" + "0001" + "0111" + "0101", "1100011" + "10100" + "0100"}},
	{"rrrrrrrrrrrrrrr", []string{"0001000100010001000100010001", "0001000100010001000100010001", "0001"}},
	{"????????????????????????", []string{
		"1111111111111111111111111111", "1111111111111111111111111111", "1111111111111111111111111111",
		"1111111111111111111111111111", "1111111111111111111111111111", "1111111111111111111111111111"}},
	{"rrrrrrrrrrrrrrrrrrrrrrrr", []string{
		"0001000100010001000100010001", "0001000100010001000100010001", "0001000100010001000100010001", "000100010001"}},
}

// fieldOf is the field whose first bits a text is, noughts behind them.
func fieldOf(text string) uint32 {
	return bitsOf(text) << (fieldWidth - len(text))
}

func TestPackedByHand(t *testing.T) {
	for _, row := range nameRows {
		var fields []uint32
		for _, text := range row.fields {
			fields = append(fields, fieldOf(text))
		}
		if got := impl.Pack(row.name); !slices.Equal(got, fields) {
			t.Errorf("Pack(%q) = %x, want %x", row.name, got, fields)
		}
		if got, ok := impl.Unpack(fields); got != row.name || !ok {
			t.Errorf("Unpack(%x) = %q, %v, want %q", fields, got, ok, row.name)
		}
		if got, _ := impl.PackOne(row.name); got != fields[0] {
			t.Errorf("PackOne(%q) = %x, want %x", row.name, got, fields[0])
		}
		if got := impl.FieldOk(fields[0]); !got {
			t.Errorf("FieldOk(%x) = false, the first field of %q", fields[0], row.name)
		}
	}
}

func TestHowManyFitInOne(t *testing.T) {
	for name, want := range map[string]int{
		"r": 1, "?": 1, "dup": 3,
		"rtoeani": 7, "rtoeanir": 7, "rtoeanr": 7, "rtoeans": 6, "rtoeand": 6,
		"rtoeansr": 6, "rtoeandrrr": 6, // the letters behind the one that doesn't fit would fit
		"sssss": 5, "sssssr": 5, "dddd": 4, "ddddd": 4, "dddsr": 4, "dddsd": 4, "dddrr": 4, "drrrrr": 6, "drrrrrr": 6,
		strings.Repeat("r", impl.MaxName): 7, strings.Repeat("s", impl.MaxName): 5, strings.Repeat("d", impl.MaxName): 4,
	} {
		field, n := impl.PackOne(name)
		if wantField := impl.Pack(name[:want]); n != want || !slices.Equal([]uint32{field}, wantField) {
			t.Errorf("PackOne(%q) = %x, %d, want %x, %d", name, field, n, wantField, want)
		}
	}
}

func TestPackOfNoName(t *testing.T) {
	for _, s := range []string{
		"", " ", "A", "rA", "Ar", "a b", " a", "a ", "a\n", "\x00", "a\xff", "\u00e9", "a:b", "dup=",
		strings.Repeat("r", impl.MaxName+1), strings.Repeat("?", impl.MaxName+1), strings.Repeat("r", 6000),
		"rtoeanirtoeanirtoeaniA", "rtoeanirtoeanirtoeani ",
	} {
		if field, n := impl.PackOne(s); field != 0 || n != 0 {
			t.Errorf("PackOne(%q) = %x, %d", s, field, n)
		}
		if fields := impl.Pack(s); len(fields) != 0 {
			t.Errorf("Pack(%q) = %x", s, fields)
		}
	}
}

// checkName holds all that is told of a name against the rows.
func checkName(t *testing.T, name string) {
	t.Helper()
	want := packByRows(name)
	if got := impl.Pack(name); !slices.Equal(got, want) {
		t.Fatalf("Pack(%q) = %x, want %x", name, got, want)
	}
	first, n := firstByRows(name)
	if field, count := impl.PackOne(name); field != first || count != n {
		t.Fatalf("PackOne(%q) = %x, %d, want %x, %d", name, field, count, first, n)
	}
	if got, ok := impl.Unpack(want); got != name || !ok {
		t.Fatalf("Unpack(%x) = %q, %v, want %q", want, got, ok, name)
	}
	if got := impl.UnpackOne(first); got != name[:n] {
		t.Fatalf("UnpackOne(%x) = %q, want %q", first, got, name[:n])
	}
	if !impl.FieldOk(first) {
		t.Fatalf("FieldOk(%x) = false, the first field of %q", first, name)
	}
}

// nameLetters are all letters that may stand in a name.
func nameLetters() string {
	var letters []byte
	for _, row := range letterRows[1:] {
		letters = append(letters, row.sign)
	}
	return string(letters)
}

func TestShortNamesComeBack(t *testing.T) {
	owners := map[uint32]string{}
	eachText(nameLetters(), 3, func(name string) {
		if name == "" {
			return
		}
		checkName(t, name)
		field, _ := impl.PackOne(name)
		if other, known := owners[field]; known {
			t.Fatalf("%q and %q have the same field %x", name, other, field)
		}
		owners[field] = name
	})
}

// Letters of each width make every way in which a field may be filled.
func TestEachRunOfWidths(t *testing.T) {
	owners := map[[3]uint32]string{}
	eachText("rsd", 9, func(name string) {
		if name == "" {
			return
		}
		checkName(t, name)
		var fields [3]uint32
		if n := copy(fields[:], impl.Pack(name)); n != len(packByRows(name)) {
			t.Fatalf("Pack(%q) has %d fields", name, n)
		}
		if other, known := owners[fields]; known {
			t.Fatalf("%q and %q have the same fields %x", name, other, fields)
		}
		owners[fields] = name
	})
}

// mixedName tells a name of n bytes, another one for another seed.
func mixedName(n int, seed uint64) string {
	letters := nameLetters()
	name := make([]byte, n)
	for at := range name {
		seed = seed*6364136223846793005 + 1442695040888963407
		name[at] = letters[seed>>33%uint64(len(letters))]
	}
	return string(name)
}

func TestNamesOfEachLength(t *testing.T) {
	for n := 1; n <= impl.MaxName; n++ {
		for seed := range uint64(500) {
			checkName(t, mixedName(n, seed))
		}
	}
}

func TestUnpackOneByHand(t *testing.T) {
	for text, want := range map[string]string{
		"":                             "",
		"0001":                         "r",
		"000100000000000000000000000":  "r",
		"0001000000000000000000000001": "r", // a blank, noughts and a one behind it
		"00010000" + "0001":            "r", // a blank in the middle
		"0001" + "0010" + "0000" + "1": "rt",
		"0000":                         "",
		"0000" + "0001":                "", // a blank ahead
		"0000000000000000000000000001": "", // blanks, of which the last bits are a letter's
		"10000":                        "s",
		"10000" + "1100000":            "sd",
		"1100000" + "1100000" + "1100000" + "1100000":                "dddd",
		"1111111" + "1111111" + "1111111" + "1111111":                "????",
		"0001" + "0010" + "0011" + "0100" + "0101" + "0110" + "0111": "rtoeani",
		"0001" + "0010" + "0011" + "0100" + "0101" + "0110" + "1":    "rtoean", // 1000 is no code yet
		"0001" + "0010" + "0011" + "0100" + "0101" + "0110" + "1111": "rtoean",
		"1100000" + "1100000" + "1100000" + "0001" + "1":             "dddr", // 100 is no code yet
		"1100000" + "1100000" + "1100000" + "0001" + "001":           "dddr",
		"1100000" + "1100000" + "1100000" + "10000" + "1":            "ddds",
		"1100000" + "1100000" + "1100000" + "10000" + "11":           "ddds",
		"10000" + "10000" + "10000" + "10000" + "10000" + "111":      "sssss",
		"10000" + "10000" + "10000" + "10000" + "1100000":            "ssssd", // 7 bits to the end
		"10000" + "10000" + "10000" + "1101011" + "111111":           "sss3",  // 6 bits of a code of 7
	} {
		if got := impl.UnpackOne(fieldOf(text)); got != want {
			t.Errorf("UnpackOne(%s) = %q, want %q", text, got, want)
		}
	}
}

// checkField holds all that is told of a field against the rows.
func checkField(t *testing.T, field uint32) {
	t.Helper()
	name := unpackByRows(field)
	if got := impl.UnpackOne(field); got != name {
		t.Fatalf("UnpackOne(%x) = %q, want %q", field, got, name)
	}
	owned := name != "" && slices.Equal(packByRows(name), []uint32{field})
	if got := impl.FieldOk(field); got != owned {
		t.Fatalf("FieldOk(%x) = %v, UnpackOne tells %q", field, got, name)
	}
	if !owned {
		name = ""
	}
	if got, ok := impl.Unpack([]uint32{field}); got != name || ok != owned {
		t.Fatalf("Unpack(%x) = %q, %v, want %q, %v", field, got, ok, name, owned)
	}
}

func TestAnyField(t *testing.T) {
	for bits := range uint32(1) << 14 {
		checkField(t, bits)
		checkField(t, bits<<7)
		checkField(t, bits<<14)
		checkField(t, bits<<14|1)
	}
	for _, number := range spread() {
		checkField(t, uint32(number)&(1<<fieldWidth-1))
	}
}

// Each bit behind the last letter makes a field that no name has, or a name with one letter more.
func TestFieldsWithBitsBehind(t *testing.T) {
	for _, row := range nameRows {
		for _, text := range row.fields {
			for bit := range fieldWidth - len(text) {
				checkField(t, fieldOf(text)|1<<bit)
			}
		}
	}
}

func TestFieldsOfTooManyBits(t *testing.T) {
	full := fieldOf("0001001000110100010101100111")
	for bit := fieldWidth; bit < 32; bit++ {
		for _, low := range []uint32{0, 1, fieldOf("0001"), full, fieldOf("1111111"), 1<<fieldWidth - 1} {
			field := low | 1<<bit
			name, ok := impl.Unpack([]uint32{field})
			two, okTwo := impl.Unpack([]uint32{full, field})
			if impl.UnpackOne(field) != "" || impl.FieldOk(field) || ok || name != "" || okTwo || two != "" {
				t.Errorf("%x is taken as a field", field)
			}
		}
	}
	if impl.UnpackOne(1<<32-1) != "" || impl.FieldOk(1<<32-1) {
		t.Error("32 ones are taken as a field")
	}
}

func TestFieldsOfNoName(t *testing.T) {
	for _, text := range []string{
		"", "0000", "00000001", "0001" + "0000" + "0001", "0001" + "00001",
		"0001000000000000000000000001", "0000000000000000000000000001",
		"0001" + "0010" + "0011" + "0100" + "0101" + "0110" + "1",
		"1100000" + "1100000" + "1100000" + "10000" + "11",
		"10000" + "10000" + "10000" + "10000" + "10000" + "001",
	} {
		field := fieldOf(text)
		if name, ok := impl.Unpack([]uint32{field}); impl.FieldOk(field) || name != "" || ok {
			t.Errorf("%s is the field of %q, %v", text, name, ok)
		}
	}
}

func TestListsOfNoName(t *testing.T) {
	full, r, d := fieldOf("0001001000110100010101100111"), fieldOf("0001"), fieldOf("1100000")
	six := fieldOf("000100100011010001010110") // rtoean, with room for four bits
	wide := uint32(1<<fieldWidth - 1)
	for _, list := range [][]uint32{
		nil, {}, {0}, {0, 0}, {0, r}, {r, 0}, {full, 0}, {full, 0, r}, {full, r, 0}, {0, full, r},
		{r, r}, {r, d}, {d, r}, {six, r}, {six, r, r}, {full, r, r}, {full, full, six, r}, // room for a letter more
		{fieldOf("11000001100000110000010000"), fieldOf("0001"), r},
		{six | 8, d}, {full, r | 1}, {full, fieldOf("000100000001")}, // fields that can't be read whole
		{full, full, full, fieldOf("0001000100010001")}, // a name of 25 letters
		{wide, wide, wide, wide, wide, wide, r},         // another one
		{wide, wide, wide, wide, wide, wide, wide}, {full, full, full, full},
		slices.Repeat([]uint32{r}, impl.MaxName), slices.Repeat([]uint32{r}, impl.MaxName+1),
		slices.Repeat([]uint32{full}, 100000), slices.Repeat([]uint32{0}, 100000),
		append([]uint32{full, r}, make([]uint32, 100)...),
	} {
		if name, ok := impl.Unpack(list); name != "" || ok {
			t.Errorf("Unpack(%x) = %q, %v", list[:min(len(list), 8)], name, ok)
		}
	}
	if name, ok := impl.Unpack([]uint32{six, d}); name != "rtoeand" || !ok {
		t.Errorf("a letter that doesn't fit came back as %q, %v", name, ok)
	}
}

// Any two fields are a name's only where the rows pack what is in them in just that way.
func TestAnyTwoFields(t *testing.T) {
	var fields []uint32
	for k := 1; k <= 7; k++ {
		eachText("rsd", min(k, 4), func(name string) {
			field, _ := firstByRows("rsdrsdr"[:k-min(k, 4)] + name)
			fields = append(fields, field)
		})
	}
	for _, first := range fields {
		for _, second := range fields {
			list := []uint32{first, second}
			name := unpackByRows(first) + unpackByRows(second)
			owned := name != "" && slices.Equal(packByRows(name), list)
			if !owned {
				name = ""
			}
			if got, ok := impl.Unpack(list); got != name || ok != owned {
				t.Fatalf("Unpack(%x) = %q, %v, want %q, %v", list, got, ok, name, owned)
			}
		}
	}
}

func TestFieldsAreNew(t *testing.T) {
	room := []uint32{fieldOf("0001001000110100010101100111"), fieldOf("0001"), 7, 8}
	kept := slices.Clone(room)
	if name, ok := impl.Unpack(room[:2]); name != "rtoeanir" || !ok {
		t.Errorf("Unpack = %q, %v", name, ok)
	}
	impl.Unpack(room)
	if !slices.Equal(room, kept) {
		t.Error("Unpack wrote into its argument")
	}
	first, second := impl.Pack("rtoeanir"), impl.Pack("rtoeanir")
	for k := range first[:cap(first)] {
		first[:cap(first)][k] = 0
	}
	if !slices.Equal(second, kept[:2]) || !slices.Equal(impl.Pack("rtoeanir"), kept[:2]) {
		t.Error("an answer of Pack is shared")
	}
}
