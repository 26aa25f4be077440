package tests

import (
	"go/ast"
	"go/parser"
	"go/token"
	"maps"
	"math"
	"math/rand"
	"path/filepath"
	"reflect"
	"slices"
	"strconv"
	"strings"
	"testing"
	"unsafe"

	"loop.example/g00060/impl"
)

// everyFunction has a line for each chapter.
func everyFunction() map[string]any {
	return map[string]any{
		"AmountOk": impl.AmountOk, "MakeAmount": impl.MakeAmount, "Convert": impl.Convert, "AddAmount": impl.AddAmount, "TimesAmount": impl.TimesAmount, "CmpAmount": impl.CmpAmount, "Fade": impl.Fade, "MeanOf": impl.MeanOf,
		"CheckDigit": impl.CheckDigit, "MakeNumber": impl.MakeNumber, "ReadNumber": impl.ReadNumber, "NameKey": impl.NameKey, "JoinsOk": impl.JoinsOk, "PersonOf": impl.PersonOf, "JoinDo": impl.JoinDo, "JoinUndo": impl.JoinUndo, "Together": impl.Together,
		"HouseOk": impl.HouseOk, "BedsFree": impl.BedsFree, "HouseDo": impl.HouseDo, "WhereAt": impl.WhereAt, "Minutes": impl.Minutes,
		"VitalOk": impl.VitalOk, "Points": impl.Points, "Urgency": impl.Urgency, "NextLook": impl.NextLook, "QueueOk": impl.QueueOk, "SeenOrder": impl.SeenOrder, "Trend": impl.Trend,
		"OpsOk": impl.OpsOk, "Clashes": impl.Clashes, "Earliest": impl.Earliest, "Insert": impl.Insert, "Busy": impl.Busy,
		"StepsOk": impl.StepsOk, "TrayDo": impl.TrayDo, "TrayState": impl.TrayState, "CycleOf": impl.CycleOf, "Touched": impl.Touched, "CyclesOn": impl.CyclesOn,
		"AlarmOk": impl.AlarmOk, "Watch": impl.Watch, "Sounded": impl.Sounded, "Ladder": impl.Ladder, "Quiet": impl.Quiet,
		"PumpOk": impl.PumpOk, "NewPump": impl.NewPump, "PumpDo": impl.PumpDo, "PumpPlay": impl.PumpPlay,
		"DrugOk": impl.DrugOk, "DoseFor": impl.DoseFor, "Interactions": impl.Interactions, "Allergic": impl.Allergic, "MayGive": impl.MayGive, "Taper": impl.Taper,
		"ChartOk": impl.ChartOk, "DueAt": impl.DueAt, "OrderDo": impl.OrderDo, "Book": impl.Book,
		"Control": impl.Control, "Trusted": impl.Trusted, "Share": impl.Share, "Delta": impl.Delta, "Reflexes": impl.Reflexes, "Calls": impl.Calls,
		"RedFits": impl.RedFits, "PlasmaFits": impl.PlasmaFits, "BankOk": impl.BankOk, "Fits": impl.Fits, "Pick": impl.Pick, "BloodDo": impl.BloodDo, "TraceUnits": impl.TraceUnits,
		"Digest": impl.Digest, "RecordOk": impl.RecordOk, "RecordDo": impl.RecordDo, "Latest": impl.Latest, "Tampered": impl.Tampered, "Derive": impl.Derive, "Why": impl.Why,
		"RulesOk": impl.RulesOk, "MaySee": impl.MaySee, "Looks": impl.Looks, "Masked": impl.Masked, "Guess": impl.Guess,
		"MessageOk": impl.MessageOk, "ShowMessage": impl.ShowMessage, "ReadMessage": impl.ReadMessage, "Fold": impl.Fold, "Missing": impl.Missing,
		"TrialOk": impl.TrialOk, "Allocation": impl.Allocation, "Enrol": impl.Enrol, "Balance": impl.Balance, "Eligible": impl.Eligible, "Roster": impl.Roster,
		"Desk": impl.Desk,
	}
}

func TestEveryFunctionIsAsked(t *testing.T) {
	files, err := filepath.Glob("../impl/*.go")
	if err != nil || len(files) != 17 {
		t.Fatal(files, err)
	}
	exported := []string{}
	for _, name := range files {
		file, err := parser.ParseFile(token.NewFileSet(), name, nil, parser.SkipObjectResolution)
		if err != nil {
			t.Fatal(err)
		}
		for _, declared := range file.Decls {
			if function, ok := declared.(*ast.FuncDecl); ok && function.Recv == nil && function.Name.IsExported() {
				exported = append(exported, function.Name.Name)
			}
		}
	}
	slices.Sort(exported)
	if names := slices.Sorted(maps.Keys(everyFunction())); !slices.Equal(names, exported) {
		t.Errorf("asked are %q, exported %q", names, exported)
	}
}

// An argumentMaker makes arguments of any type by coins.
type argumentMaker struct {
	*rand.Rand
	right map[reflect.Type]func() any
}

func newArgumentMaker(seed int64) *argumentMaker {
	coins := rand.New(rand.NewSource(seed))
	m := &argumentMaker{Rand: coins, right: map[reflect.Type]func() any{}}
	for _, right := range rightMakers(coins) {
		m.right[reflect.TypeOf(right())] = right
	}
	return m
}

// rightMakers make what the chapters mostly take; who, where and when is of few numbers, so that things meet.
func rightMakers(coins *rand.Rand) []func() any {
	few := func(most int64) int64 { return coins.Int63n(most) }
	return []func() any{
		func() any { return []int64{0, 1, 2, 3, 4, 5, 7, 10, 20, 60, 100, few(30), few(1000)}[coins.Intn(13)] },
		func() any { return []float64{0, 0.5, 1, 2, 100, coins.Float64(), math.NaN()}[coins.Intn(7)] },
		func() any { return roughFloats(coins, coins.Intn(9)) },
		func() any { return numbersTo(few(12)) },
		func() any { return slices.Repeat([]bool{true}, coins.Intn(12)) },
		func() any { return randomBytes(coins, coins.Intn(50)) },
		func() any { return rightTexts(coins)[coins.Intn(len(rightTexts(coins)))] },
		func() any { return rightAmounts()[coins.Intn(len(rightAmounts()))] },
		func() any { return randomBook(coins, 6, 8) },
		func() any { return walkedHouse(coins, 6, 20) },
		func() any {
			return impl.Move{Kind: 1 + few(3), Person: few(8), Sex: 1 + few(2), Need: 1 + few(3), Bed: few(6), Time: 50 + few(20)}
		},
		func() any { return randomVital(coins) },
		func() any {
			return []impl.Vital{randomVital(coins), wellVital(), randomVital(coins), noVital(), randomVital(coins)}
		},
		func() any { return randomQueue(coins, 10, 200) },
		func() any { return randomOp(coins, 3, 6, 100) },
		func() any { return opsWithoutClash(randomOps(coins, 8, 3, 6, 300), 10) },
		func() any { return joined(aDay(), randomSteps(coins, 60, 4, 4, 4)) },
		func() any { return alarmOf(few(5), few(4)) },
		func() any { return randomTicks(coins, 20) },
		func() any { return aLimit() },
		func() any { return pumpIn(1 + few(5)) },
		func() any { return randomAct(coins) },
		func() any { return randomActs(coins, 20) },
		func() any { return randomDrug(coins) },
		func() any { return randomDrugs(coins, 6, 6) },
		func() any { return randomRules(coins, 6, 6) },
		func() any { return randomGiven(coins, 8) },
		func() any { return randomChart(coins) },
		func() any { return randomDeed(coins, aChart(), 100) },
		func() any { return randomLines(coins, 12) },
		func() any { return randomResults(coins, 12) },
		func() any { return randomReflexes(coins, 6, 6) },
		func() any { return randomValues(coins, 6) },
		func() any { return unitOf(1+few(9), few(8), few(100), 1, 4) },
		func() any { return randomBank(coins, 8) },
		func() any { return randomNeed(coins) },
		func() any { return doOf(1+few(4), 1+few(9), few(12)) },
		func() any { return randomRecord(coins, 8) },
		func() any { return randomWrite(coins) },
		func() any { return randomLaws(coins, 8, true) },
		func() any { return randomHouseRules(coins, 6) },
		func() any {
			return []impl.Look{randomLook(coins), byGlass(randomLook(coins)), randomLook(coins), byGlass(randomLook(coins))}
		},
		func() any { return randomMessage(coins) },
		func() any { return randomLetters(coins, 20) },
		func() any { return randomTrial(coins) },
		func() any { return []impl.Criterion{randomCriterion(coins, 4), randomCriterion(coins, 4)} },
	}
}

func rightTexts(coins *rand.Rand) []string {
	desk := &deskCoins{Rand: coins}
	return []string{impl.MakeNumber(coins.Int63n(1000000000)), randomName(coins, 30), impl.ShowMessage(randomMessage(coins)), desk.text(coins.Intn(40)), desk.text(coins.Intn(200))}
}

func (m *argumentMaker) wildNumber() int64 {
	wild := []int64{
		math.MinInt64, math.MinInt64 + 1, math.MaxInt64, math.MaxInt64 - 1, math.MinInt32, math.MaxInt32, math.MaxUint32, -1, -2, 0, 1, 2, 3, 7, 8, 20, 63, 64, 99, 100, 200, 201, 999, 1000, 1001, 1440, 10000, 100000, 100001,
		10000000, 10000001, 1000000000, 1000000001, 1000000000000000000, 1000000000000000001, -100000, -100001, -1000000000,
	}
	if m.Intn(4) == 0 {
		return int64(m.Uint64())
	}
	return wild[m.Intn(len(wild))]
}

// fill writes wild values into all of v.
func (m *argumentMaker) fill(v reflect.Value) {
	switch v.Kind() {
	case reflect.Int64:
		v.SetInt(m.wildNumber())
	case reflect.Uint8:
		v.SetUint(uint64(m.Intn(256)))
	case reflect.Bool:
		v.SetBool(m.Intn(2) == 0)
	case reflect.Float64:
		v.SetFloat([]float64{math.NaN(), math.Inf(1), math.Inf(-1), math.Copysign(0, -1), math.MaxFloat64, -math.MaxFloat64, math.SmallestNonzeroFloat64, math.Float64frombits(m.Uint64())}[m.Intn(8)])
	case reflect.String:
		v.SetString(string(randomBytes(m.Rand, []int{0, 1, 3, 14, 200, 201, 20001}[m.Intn(7)])))
	case reflect.Slice:
		v.Set(reflect.MakeSlice(v.Type(), m.Intn(5), 8))
		for at := range v.Len() {
			m.fill(v.Index(at))
		}
	case reflect.Struct:
		for at := range v.NumField() {
			m.fill(v.Field(at))
		}
	}
}

// spoil writes a wild value into one part of v.
func (m *argumentMaker) spoil(v reflect.Value) {
	for {
		switch {
		case v.Kind() == reflect.Slice && v.Len() > 0 && m.Intn(8) > 0:
			v = v.Index(m.Intn(v.Len()))
		case v.Kind() == reflect.Struct:
			v = v.Field(m.Intn(v.NumField()))
		default:
			m.fill(v)
			return
		}
	}
}

// anewWithRoom is a copy of v in which spare room stands behind each list, with wild values in it.
func (m *argumentMaker) anewWithRoom(v reflect.Value) reflect.Value {
	anew := reflect.New(v.Type()).Elem()
	anew.Set(v)
	switch v.Kind() {
	case reflect.Slice:
		list := reflect.MakeSlice(v.Type(), v.Len()+1+m.Intn(3), v.Len()+4)
		for at := range list.Len() {
			if at < v.Len() {
				list.Index(at).Set(m.anewWithRoom(v.Index(at)))
			} else {
				m.fill(list.Index(at))
			}
		}
		anew.Set(list.Slice(0, v.Len()))
	case reflect.Struct:
		for at := range v.NumField() {
			anew.Field(at).Set(m.anewWithRoom(v.Field(at)))
		}
	}
	return anew
}

func (m *argumentMaker) argument(kind reflect.Type) reflect.Value {
	v := reflect.New(kind).Elem()
	right, known := m.right[kind]
	if !known || m.Intn(8) == 0 {
		m.fill(v)
		return m.anewWithRoom(v)
	}
	v.Set(reflect.ValueOf(right()))
	v = m.anewWithRoom(v)
	if m.Intn(6) == 0 {
		m.spoil(v)
	}
	return v
}

// tooLong is a list or a text of more than any chapter takes, with what is right in it.
func (m *argumentMaker) tooLong(kind reflect.Type) reflect.Value {
	v := m.argument(kind)
	switch kind.Kind() {
	case reflect.Slice:
		for v.Len() < 5000 || kind.Elem().Kind() == reflect.Uint8 && v.Len() < 200000 {
			v = reflect.AppendSlice(reflect.Append(v, reflect.Zero(kind.Elem())), v)
		}
	case reflect.String:
		v.SetString(strings.Repeat("a1 \n", 100000))
	case reflect.Struct:
		for at := range v.NumField() {
			if field := v.Field(at); field.Kind() == reflect.Slice {
				field.Set(m.tooLong(field.Type()))
			}
		}
	}
	return v
}

// drawn tells all of v, with what stands in the spare room where that is asked for. A nil list is drawn as an empty one.
func drawn(text []byte, v reflect.Value, spare bool) []byte {
	switch v.Kind() {
	case reflect.Int64:
		text = strconv.AppendInt(text, v.Int(), 10)
	case reflect.Uint8:
		text = strconv.AppendUint(text, v.Uint(), 10)
	case reflect.Bool:
		text = strconv.AppendBool(text, v.Bool())
	case reflect.Float64:
		text = strconv.AppendFloat(text, v.Float(), 'x', -1, 64)
	case reflect.String:
		text = append(strconv.AppendInt(text, int64(v.Len()), 10), v.String()...)
	case reflect.Slice:
		text = append(strconv.AppendInt(text, int64(v.Len()), 10), '[')
		if spare {
			v = v.Slice(0, v.Cap())
		}
		for at := range v.Len() {
			text = drawn(text, v.Index(at), spare)
		}
	case reflect.Struct:
		for at := range v.NumField() {
			text = drawn(text, v.Field(at), spare)
		}
	}
	return append(text, ';')
}

func drawnAll(list []reflect.Value, spare bool) string {
	text := []byte{}
	for _, v := range list {
		text = drawn(text, v, spare)
	}
	return string(text)
}

// A piece of memory goes from from up to, but not with, to.
type piece struct{ from, to uintptr }

func overlap(a, b piece) bool { return a.from < b.to && b.from < a.to }

// pieces are those of all lists and texts of v, with the spare room. (A text of one byte may be one that the language keeps.)
func pieces(list []piece, v reflect.Value) []piece {
	switch v.Kind() {
	case reflect.String:
		if v.Len() > 1 {
			from := uintptr(unsafe.Pointer(unsafe.StringData(v.String())))
			list = append(list, piece{from, from + uintptr(v.Len())})
		}
	case reflect.Slice:
		if v.Cap() > 0 {
			list = append(list, piece{v.Pointer(), v.Pointer() + uintptr(v.Cap())*v.Type().Elem().Size()})
		}
		for at := range v.Len() {
			list = pieces(list, v.Index(at))
		}
	case reflect.Struct:
		for at := range v.NumField() {
			list = pieces(list, v.Field(at))
		}
	}
	return list
}

func allPieces(list []reflect.Value) []piece {
	all := []piece{}
	for _, v := range list {
		all = pieces(all, v)
	}
	slices.SortFunc(all, func(a, b piece) int {
		if a.from < b.from {
			return -1
		}
		return 1
	})
	return all
}

// sharesAny asks whether a piece of the answer overlaps with another one of it, or with one of the others. It wants both sorted.
func sharesAny(answer, others []piece) bool {
	for at, one := range answer {
		if at > 0 && overlap(answer[at-1], one) {
			return true
		}
		next, _ := slices.BinarySearchFunc(others, one.from, func(other piece, from uintptr) int {
			if other.to <= from {
				return -1
			}
			return 1
		})
		if next < len(others) && overlap(one, others[next]) {
			return true
		}
	}
	return false
}

// answered calls, and tells whether that panicked.
func answered(function reflect.Value, arguments []reflect.Value) (answers []reflect.Value, panicked any) {
	defer func() { panicked = recover() }()
	return function.Call(arguments), nil
}

// checkCall asks twice: neither panics, both answer the same, the arguments stay, and nothing is shared.
func checkCall(t *testing.T, name string, function any, arguments []reflect.Value) []reflect.Value {
	t.Helper()
	ahead := drawnAll(arguments, true)
	answers, panicked := answered(reflect.ValueOf(function), arguments)
	if panicked != nil {
		t.Fatalf("%s panics: %v: %.2000v", name, panicked, arguments)
	}
	again, _ := answered(reflect.ValueOf(function), arguments)
	if drawnAll(arguments, true) != ahead {
		t.Fatalf("%s writes into its arguments, which are now %.2000v", name, arguments)
	}
	if drawnAll(answers, false) != drawnAll(again, false) {
		t.Fatalf("%s answers %.2000v, and then %.2000v", name, answers, again)
	}
	if mine := allPieces(answers); sharesAny(mine, allPieces(arguments)) || sharesAny(mine, allPieces(again)) {
		t.Fatalf("%s answers with memory that is shared: %.2000v", name, arguments)
	}
	return answers
}

func (m *argumentMaker) arguments(function any, each func(kind reflect.Type) reflect.Value) []reflect.Value {
	list := []reflect.Value{}
	for at := range reflect.TypeOf(function).NumIn() {
		list = append(list, each(reflect.TypeOf(function).In(at)))
	}
	return list
}

// Whatever the arguments, a function answers in more than one way: else it would hardly be asked here.
func TestEveryFunctionAnswers(t *testing.T) {
	for name, function := range everyFunction() {
		m, seen := newArgumentMaker(21), map[string]int{}
		for range 300 {
			answers := checkCall(t, name, function, m.arguments(function, m.argument))
			seen[drawnAll(answers, false)]++
		}
		if len(seen) < 2 {
			t.Errorf("%s always answers the same", name)
		}
	}
}

func TestEveryFunctionAnswersWhatIsEmpty(t *testing.T) {
	for name, function := range everyFunction() {
		m := newArgumentMaker(22)
		checkCall(t, name, function, m.arguments(function, reflect.Zero))
		checkCall(t, name, function, m.arguments(function, func(kind reflect.Type) reflect.Value { return m.anewWithRoom(reflect.Zero(kind)) }))
	}
}

func TestEveryFunctionAnswersWhatIsTooLong(t *testing.T) {
	for name, function := range everyFunction() {
		m := newArgumentMaker(23)
		for at := range reflect.TypeOf(function).NumIn() {
			arguments := m.arguments(function, m.argument)
			arguments[at] = m.tooLong(arguments[at].Type())
			checkCall(t, name, function, arguments)
		}
	}
}

// Each number by itself at its very ends, with all else right.
func TestEveryFunctionAnswersGreatNumbers(t *testing.T) {
	for name, function := range everyFunction() {
		m := newArgumentMaker(24)
		for at := range reflect.TypeOf(function).NumIn() {
			for _, n := range []int64{math.MinInt64, math.MinInt64 + 1, -1, math.MaxInt64 - 1, math.MaxInt64} {
				arguments := m.arguments(function, m.argument)
				if arguments[at].Kind() == reflect.Int64 {
					arguments[at] = reflect.ValueOf(n)
				}
				for field := range fieldsOf(arguments[at]) {
					arguments := slices.Clone(arguments)
					arguments[at] = m.anewWithRoom(arguments[at])
					if part := arguments[at].Field(field); part.Kind() == reflect.Int64 {
						part.SetInt(n)
					}
					checkCall(t, name, function, arguments)
				}
				checkCall(t, name, function, arguments)
			}
		}
	}
}

func fieldsOf(v reflect.Value) int {
	if v.Kind() != reflect.Struct {
		return 0
	}
	return v.NumField()
}

// Several at once answer as one by one: nothing that is kept is seen, and nothing is written by two.
func TestEveryFunctionAtOnce(t *testing.T) {
	for name, function := range everyFunction() {
		m := newArgumentMaker(25)
		for range 4 {
			arguments := m.arguments(function, m.argument)
			want := drawnAll(checkCall(t, name, function, arguments), false)
			told := make(chan string)
			for range 4 {
				go func() {
					answers, _ := answered(reflect.ValueOf(function), arguments)
					told <- drawnAll(answers, false)
				}()
			}
			for range 4 {
				if got := <-told; got != want {
					t.Errorf("%s answers %.2000q, at once with others %.2000q", name, want, got)
				}
			}
		}
	}
}
