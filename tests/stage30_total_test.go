package tests

import (
	"fmt"
	"go/ast"
	goparser "go/parser"
	"go/token"
	"math"
	"path/filepath"
	"reflect"
	"slices"
	"strings"
	"testing"

	"loop.example/g00595/impl"
)

// Promise 31: every function is total and does not modify its arguments.

// exportedFunctions are all functions that the document lists, by name.
func exportedFunctions() map[string]any {
	return map[string]any{
		"FormatInt": impl.FormatInt, "ParseNumber": impl.ParseNumber, "ParseInt": impl.ParseInt, "SplitByte": impl.SplitByte, "Join": impl.Join,
		"GcdOf": impl.GcdOf, "GcdOfList": impl.GcdOfList, "IsAscending": impl.IsAscending, "SortList": impl.SortList, "HasNumber": impl.HasNumber,
		"SumsOf": impl.SumsOf, "SharedOf": impl.SharedOf, "ListText": impl.ListText, "ParseList": impl.ParseList,
		"Generates": impl.Generates, "IsSemigroup": impl.IsSemigroup, "Contains": impl.Contains, "FromGens": impl.FromGens,
		"MultiplicityOf": impl.MultiplicityOf, "DimensionOf": impl.DimensionOf, "EqualSemigroup": impl.EqualSemigroup,
		"Gaps": impl.Gaps, "FrobeniusOf": impl.FrobeniusOf, "GenusOf": impl.GenusOf, "ConductorOf": impl.ConductorOf,
		"SmallElements": impl.SmallElements, "ElementAt": impl.ElementAt, "IndexOfElement": impl.IndexOfElement,
		"SemigroupText": impl.SemigroupText, "ParseSemigroup": impl.ParseSemigroup, "GapText": impl.GapText,
		"AperySet": impl.AperySet, "FromApery": impl.FromApery, "FrobeniusByApery": impl.FrobeniusByApery, "GenusByApery": impl.GenusByApery,
		"CoordinatesOf": impl.CoordinatesOf, "CoordinateClash": impl.CoordinateClash, "FromCoordinates": impl.FromCoordinates,
		"GapClash": impl.GapClash, "FromGaps": impl.FromGaps, "FromElements": impl.FromElements,
		"PseudoFrobenius": impl.PseudoFrobenius, "TypeOf": impl.TypeOf, "IsSymmetric": impl.IsSymmetric,
		"IsPseudoSymmetric": impl.IsPseudoSymmetric, "IsIrreducible": impl.IsIrreducible, "SpecialGaps": impl.SpecialGaps,
		"IsBelow": impl.IsBelow, "MaximalOf": impl.MaximalOf, "MinimalIn": impl.MinimalIn, "ExceedingOf": impl.ExceedingOf,
		"Factorizations": impl.Factorizations, "CountFactorizations": impl.CountFactorizations, "IsFactorization": impl.IsFactorization,
		"ValueOf": impl.ValueOf, "FactorText": impl.FactorText,
		"LengthsOf": impl.LengthsOf, "DeltaOf": impl.DeltaOf, "ElasticityOf": impl.ElasticityOf,
		"GreatestElasticity": impl.GreatestElasticity, "DeltaSet": impl.DeltaSet,
		"DistanceOf": impl.DistanceOf, "CatenaryOf": impl.CatenaryOf, "ChainOf": impl.ChainOf, "CatenaryDegree": impl.CatenaryDegree,
		"ClassesOf": impl.ClassesOf, "BettiElements": impl.BettiElements, "PresentationOf": impl.PresentationOf,
		"ApplyRelation": impl.ApplyRelation, "ReachedBy": impl.ReachedBy,
		"NumeratorOf": impl.NumeratorOf, "SeriesFrom": impl.SeriesFrom, "IsPalindrome": impl.IsPalindrome,
		"MultiplyLists": impl.MultiplyLists, "EulerAt": impl.EulerAt, "EulerList": impl.EulerList,
		"InIdeal": impl.InIdeal, "IdealGens": impl.IdealGens, "IdealSum": impl.IdealSum, "DualGens": impl.DualGens, "CanonicalGens": impl.CanonicalGens,
		"QuotientOf": impl.QuotientOf, "ScaledElements": impl.ScaledElements,
		"IsWithin": impl.IsWithin, "MeetOf": impl.MeetOf, "AddOf": impl.AddOf,
		"AddGap": impl.AddGap, "RemoveGenerator": impl.RemoveGenerator, "LargerSemigroups": impl.LargerSemigroups,
		"ParentOf": impl.ParentOf, "ChildrenOf": impl.ChildrenOf, "AllOfGenus": impl.AllOfGenus, "CountGenus": impl.CountGenus, "PathTo": impl.PathTo,
		"IrreducibleOvers": impl.IrreducibleOvers, "DecompositionOf": impl.DecompositionOf, "MeetOfAll": impl.MeetOfAll,
		"GlueOf": impl.GlueOf, "GlueFrobenius": impl.GlueFrobenius, "IsTelescopic": impl.IsTelescopic, "TelescopicFrobenius": impl.TelescopicFrobenius,
		"PairFrobenius": impl.PairFrobenius, "PairGenus": impl.PairGenus, "PairWays": impl.PairWays,
		"RunFrobenius": impl.RunFrobenius, "LeastInSum": impl.LeastInSum,
		"IsArf": impl.IsArf, "ArfFailure": impl.ArfFailure, "ArfClosure": impl.ArfClosure, "BlowUp": impl.BlowUp, "MultiplicitySequence": impl.MultiplicitySequence,
		"LeftCount": impl.LeftCount, "WilfNumber": impl.WilfNumber, "DepthOf": impl.DepthOf,
		"SporadicDensity": impl.SporadicDensity, "PrimitiveBelow": impl.PrimitiveBelow,
		"AreCoins": impl.AreCoins, "GreedyChange": impl.GreedyChange, "FewestCoins": impl.FewestCoins,
		"BestChange": impl.BestChange, "FirstWaste": impl.FirstWaste, "IsOrderly": impl.IsOrderly,
		"AreStamps": impl.AreStamps, "ReachOf": impl.ReachOf, "StampsFor": impl.StampsFor, "BestStamps": impl.BestStamps,
		"PairsOf": impl.PairsOf, "OrderBound": impl.OrderBound, "LinearBound": impl.LinearBound,
		"ExampleText": impl.ExampleText, "DescribeSemigroup": impl.DescribeSemigroup, "DescribeExample": impl.DescribeExample,
		"NewSession": impl.NewSession, "EqualSession": impl.EqualSession, "ExecuteLine": impl.ExecuteLine, "RunSession": impl.RunSession,
	}
}

// TestAllExportedFunctionsAreKnown reads the program, so that none is left out.
func TestAllExportedFunctionsAreKnown(t *testing.T) {
	files, err := filepath.Glob("../impl/*.go")
	if err != nil || len(files) != 30 {
		t.Fatalf("%d files, %v", len(files), err)
	}
	var declared, known []string
	for _, name := range files {
		file, err := goparser.ParseFile(token.NewFileSet(), name, nil, goparser.SkipObjectResolution)
		if err != nil {
			t.Fatal(err)
		}
		for _, d := range file.Decls {
			if f, ok := d.(*ast.FuncDecl); ok && f.Recv == nil && f.Name.IsExported() {
				declared = append(declared, f.Name.Name)
			}
		}
	}
	for name := range exportedFunctions() {
		known = append(known, name)
	}
	slices.Sort(declared)
	slices.Sort(known)
	if !slices.Equal(declared, known) {
		t.Errorf("the program has %q; the test knows %q", declared, known)
	}
}

func extremeNumbers() []int {
	return []int{math.MinInt, math.MinInt + 1, -1 << 32, -1, 0, 1, 7, 60, 1 << 32, math.MaxInt - 1, math.MaxInt}
}

func extremeLists() [][]int {
	return [][]int{
		nil, {}, {0}, {1}, {-1}, {math.MinInt}, {math.MaxInt}, {math.MinInt, math.MaxInt}, {math.MaxInt, math.MinInt}, {math.MaxInt, math.MaxInt}, {math.MinInt, math.MinInt},
		{3, 5}, {5, 3}, {1, 3, 4}, {1, 1}, {0, math.MaxInt, 1}, numbersFrom(-100, 400),
	}
}

// extremeGens are no Gens of a semigroup, except for the last three lists.
func extremeGens() [][]int {
	return [][]int{
		nil, {}, {0}, {-1}, {2}, {61}, {math.MinInt}, {math.MaxInt}, {math.MinInt, math.MaxInt}, {1, math.MaxInt}, {5, 3}, {3, 3}, {3, 5, 8}, {59, 60}, numbersFrom(20, 39), numbersFrom(1, 500),
		{1}, {3, 5}, {4, 5, 6, 7},
	}
}

func extremeTexts() []string {
	return []string{
		"", " ", "none", "0", "-0", "-9223372036854775808", "9223372036854775807", "99999999999999999999999", "<>", "<none>", "<3,5>", "<5,3>", "<-9223372036854775808,1>", "\xff\x00", "ß",
		"in -9223372036854775808", "least 9223372036854775807", "factors 999999999999", "gaps -999999999999,999999999999", "sums none", "gaps none", "example -999999999999", "keep", "swap", "describe", "larger",
		"meet", "add", "parent", "arf", "blowup", "betti", "children", "decompose", "sequence", "show\nkeep\n\nswap", strings.Repeat("1,", 3000) + "1", "<" + strings.Repeat("1,", 3000) + "1>", strings.Repeat("keep\n", 50), strings.Repeat(" ", 5000),
	}
}

// argument is what a function is called with, and the memory that it may not
// change, the unused capacity included.
type argument struct {
	value reflect.Value
	memory
}

// memory are lists whose numbers stand behind them in unused capacity too.
type memory []guarded

func (m memory) snapshot() string {
	text := ""
	for _, g := range m {
		text += fmt.Sprint(g.whole)
	}
	return text
}

func (m memory) scribble() {
	for _, g := range m {
		scribble(g.whole)
	}
}

func ofList(list []int) argument {
	g := guard(list)
	if list == nil {
		return argument{reflect.ValueOf(list), nil}
	}
	return argument{reflect.ValueOf(g.list), memory{g}}
}

func ofGens(gens []int) argument {
	a := ofList(gens)
	return argument{reflect.ValueOf(impl.Semigroup{Gens: a.value.Interface().([]int)}), a.memory}
}

func ofPair(x argument, y argument, value any) argument {
	return argument{reflect.ValueOf(value), slices.Concat(x.memory, y.memory)}
}

func ofRelation(a []int, b []int) argument {
	x, y := ofList(a), ofList(b)
	return ofPair(x, y, impl.Relation{A: x.value.Interface().([]int), B: y.value.Interface().([]int)})
}

func ofSession(now []int, kept []int) argument {
	x, y := ofGens(now), ofGens(kept)
	return ofPair(x, y, impl.Session{Now: x.value.Interface().(impl.Semigroup), Kept: y.value.Interface().(impl.Semigroup)})
}

// argumentsOf returns functions that make the arguments of a type anew.
func argumentsOf(kind reflect.Type) []func() argument {
	var makers []func() argument
	add := func(maker func() argument) { makers = append(makers, maker) }
	switch reflect.Zero(kind).Interface().(type) {
	case int:
		for _, n := range extremeNumbers() {
			add(func() argument { return argument{reflect.ValueOf(n), nil} })
		}
	case byte:
		for _, b := range []byte{0, ',', 255} {
			add(func() argument { return argument{reflect.ValueOf(b), nil} })
		}
	case string:
		for _, text := range extremeTexts() {
			add(func() argument { return argument{reflect.ValueOf(text), nil} })
		}
	case []string:
		for _, list := range [][]string{nil, {}, {""}, {"a", "", "\xff"}} {
			add(func() argument { return argument{reflect.ValueOf(slices.Clone(list)), nil} })
		}
	case []int:
		for _, list := range extremeLists() {
			add(func() argument { return ofList(list) })
		}
	case impl.Semigroup:
		for _, gens := range extremeGens() {
			add(func() argument { return ofGens(gens) })
		}
	case impl.Relation:
		for _, a := range extremeLists() {
			for _, b := range extremeLists() {
				add(func() argument { return ofRelation(a, b) })
			}
		}
	case []impl.Semigroup:
		add(func() argument { return argument{reflect.ValueOf([]impl.Semigroup(nil)), nil} })
		for _, a := range extremeGens() {
			for _, b := range extremeGens() {
				add(func() argument {
					x, y := ofGens(a), ofGens(b)
					return ofPair(x, y, []impl.Semigroup{x.value.Interface().(impl.Semigroup), y.value.Interface().(impl.Semigroup)})
				})
			}
		}
	case []impl.Relation:
		add(func() argument { return argument{reflect.ValueOf([]impl.Relation(nil)), nil} })
		for _, pair := range [][2][]int{{nil, nil}, {{math.MinInt}, {math.MaxInt}}, {{math.MaxInt, 0}, {0, math.MinInt}}, {{1, 0}, {0, 1}}, {{0}, {1, 2}}, {{0, 0, 0}, {1, 0, 0}}} {
			add(func() argument {
				x, y := ofRelation(pair[0], pair[1]), ofRelation(pair[1], pair[0])
				return ofPair(x, y, []impl.Relation{x.value.Interface().(impl.Relation), y.value.Interface().(impl.Relation)})
			})
		}
	case impl.Session:
		for _, a := range extremeGens() {
			add(func() argument { return ofSession(a, []int{3, 5}) })
			add(func() argument { return ofSession([]int{3, 5}, a) })
			add(func() argument { return ofSession(a, a) })
		}
	}
	return makers
}

// call is one call of a function with arguments of its own.
type call struct {
	name      string
	function  reflect.Value
	arguments []argument
}

func (c call) memory() memory {
	var all memory
	for _, a := range c.arguments {
		all = append(all, a.memory...)
	}
	return all
}

func (c call) String() string {
	var texts []string
	for _, a := range c.arguments {
		text := fmt.Sprintf("%v", a.value)
		texts = append(texts, text[:min(len(text), 60)])
	}
	return c.name + "(" + strings.Join(texts, ", ") + ")"
}

func (c call) results() []reflect.Value {
	var values []reflect.Value
	for _, a := range c.arguments {
		values = append(values, a.value)
	}
	return c.function.Call(values)
}

func textOf(results []reflect.Value) string {
	text := ""
	for _, r := range results {
		text += fmt.Sprintf("%v;", r)
	}
	return text
}

// eachCall calls a function with all combinations of the makers, or with some of
// them where there are many.
func eachCall(name string, function any, check func(c call)) {
	f := reflect.ValueOf(function)
	var makers [][]func() argument
	total := 1
	for i := range f.Type().NumIn() {
		makers = append(makers, argumentsOf(f.Type().In(i)))
		total *= len(makers[i])
	}
	step := 1
	if total > 3000 {
		// A step without a common divisor with the total also leads to all values
		// of the first argument.
		step = total/3000 + 1
		for divisorOf(step, total) != 1 {
			step++
		}
	}
	for index := 0; index < total; index += step {
		c, rest := call{name: name, function: f}, index
		for _, list := range makers {
			c.arguments = append(c.arguments, list[rest%len(list)]())
			rest /= len(list)
		}
		check(c)
	}
}

// checkCall calls twice, with a change of the arguments after the calls.
func checkCall(t *testing.T, c call) {
	defer func() {
		if r := recover(); r != nil {
			t.Fatalf("%v panics: %v", c, r)
		}
	}()
	name, before := c.String(), c.memory().snapshot()
	results := c.results()
	text := textOf(results)
	if after := c.memory().snapshot(); after != before {
		t.Fatalf("%s has changed its arguments", name)
	}
	if again := textOf(c.results()); again != text {
		t.Fatalf("%s = %s and then %s", name, text, again)
	}
	c.memory().scribble()
	if outlived := textOf(results); outlived != text {
		t.Fatalf("%s = %s, and %s after its arguments were changed", name, text, outlived)
	}
	checkFalse(t, name, results)
	checkApart(t, name, results)
}

// checkFalse: together with a last result false, the others are zero. Of a
// slice, nil and empty are the same; ExecuteLine and others have no such result.
func checkFalse(t *testing.T, name string, results []reflect.Value) {
	t.Helper()
	last := len(results) - 1
	if last < 1 || results[last].Kind() != reflect.Bool || results[last].Bool() {
		return
	}
	for _, r := range results[:last] {
		if r.Kind() == reflect.Slice && r.Len() == 0 {
			continue
		}
		if !r.IsZero() {
			t.Fatalf("%s = %s", name, textOf(results))
		}
	}
}

// checkApart overwrites the lists of numbers in the results one after another,
// and looks at the others.
func checkApart(t *testing.T, name string, results []reflect.Value) {
	t.Helper()
	var lists [][]int
	for _, r := range results {
		lists = listsIn(r, lists)
	}
	for i, list := range lists {
		rest := copyOfLists(lists[i+1:])
		scribble(list)
		if !equalLists(lists[i+1:], rest) {
			t.Fatalf("of %s, a change of one list changes another one", name)
		}
	}
}

// listsIn returns the lists of numbers in a value together with those before.
func listsIn(v reflect.Value, lists [][]int) [][]int {
	switch v.Kind() {
	case reflect.Slice:
		if list, ok := v.Interface().([]int); ok {
			return append(lists, list)
		}
		for i := range v.Len() {
			lists = listsIn(v.Index(i), lists)
		}
	case reflect.Struct:
		for i := range v.NumField() {
			lists = listsIn(v.Field(i), lists)
		}
	}
	return lists
}

// TestEveryFunctionIsTotal calls every function with the extremes.
func TestEveryFunctionIsTotal(t *testing.T) {
	for name, function := range exportedFunctions() {
		count := 0
		eachCall(name, function, func(c call) {
			checkCall(t, c)
			count++
		})
		if inputs := reflect.TypeOf(function).NumIn(); count < 3 && inputs > 0 {
			t.Errorf("the test itself is wrong: %s is called %d times", name, count)
		}
	}
}
