// Package promises holds P1 and P2 of the document to account for all layers: it calls anything with any arguments, in
// any order that a seed tells.
package promises

import (
	"fmt"
	"hash/fnv"
	"maps"
	"math"
	"math/rand"
	"reflect"
	"slices"
	"sort"
	"strings"
	"testing"

	"punnet/api"
	"punnet/chain"
	"punnet/crc"
	"punnet/export"
	"punnet/op"
	"punnet/quota"
	"punnet/session"
	"punnet/spool"
	"punnet/table"
	"punnet/token"
	"punnet/trap"
)

var numbers = []int64{
	0, 1, 2, 3, 5, 7, 8, 9, 15, 16, 18, 19, 30, 63, 64, 255, 256, 258, 259, 285, 286, 512, 1000, 1001, 4096, 32768, 32769, 65535, 1 << 20, 1<<24 + 1,
	-1, -2, 1 << 31, 1<<32 - 1, 1 << 40, math.MaxInt, math.MaxInt - 1, math.MinInt, 1980, 2024,
}

var texts = []string{
	"", "a", "b", "a/b", "..", "/", "é", "\xff", "list", "step 1", "open 1 6 2024-05-06T07:08:10 a", "list\nfree\n", "2024-05-06T07:08:10", "-", "6162", "12", "-5",
	"*", "**", "[a-z]", "[", "\\",
}

var floats = []float64{0, math.Copysign(0, -1), math.NaN(), math.Inf(1), math.Inf(-1), 1, 0.5, -2, 7}

// throwing are the calls of which the chapters say that they throw.
var throwing = []string{"trap.Throw", "trap.Check", "octet.Reader.Bytes", "octet.Reader.Int", "octet.Reader.Want", "local.Read", "central.Read", "desc.Read"}

// changing are the calls that change something also if they have an error, as their chapters say.
var changing = []string{
	"inflate.Machine.Write", "session.Session.Step", "spool.Spool.Step", "spool.Spool.Tick", "spool.Spool.Get", "spool.Spool.Resize",
	"octet.Reader.Want", "local.Read", "central.Read", "desc.Read",
}

// mode is how a run differs from the plain one.
type mode struct {
	scribble bool         // arguments and results are overwritten after each call
	skip     map[int]bool // calls that are left out
}

// run is one series of calls.
type run struct {
	t      *testing.T
	rnd    *rand.Rand
	mode   mode
	pool   map[reflect.Type][]reflect.Value
	told   []string     // what each call told
	failed map[int]bool // which of them had an error, and should have changed nothing
}

func (r *run) keep(v reflect.Value) {
	list := r.pool[v.Type()]
	if len(list) < 20 {
		r.pool[v.Type()] = append(list, v)
		return
	}
	list[len(r.told)%20] = v
}

// seed keeps some values that are right.
func (r *run) seed() {
	when := api.Time{Year: 2024, Month: 5, Day: 6, Hour: 7, Minute: 8, Sec: 10}
	few := quota.Quota{Waiting: 1000, Size: 1000}
	for i := range 4 {
		for _, v := range []any{
			when, few, session.Config{Name: texts[1+i], Time: when, Level: 3 * i, Quota: few}, spool.Config{Size: 700 * i, Sessions: 5, Quota: few}, export.Form{Wide: i&1 == 1, Later: i&2 == 2},
			token.Token{Lit: byte(i)}, token.Token{Len: 5, Dist: 1}, &crc.Digest{}, &chain.Chain{}, op.Op{Kind: op.Step, N: []int{i}}, table.Row{Name: texts[1+i], Size: 5}, []byte("some bytes some bytes"), texts[1+i], i,
		} {
			r.keep(reflect.ValueOf(v))
		}
	}
}

// value returns any value of a type; false: there is none.
func (r *run) value(t reflect.Type) (reflect.Value, bool) {
	if list := r.pool[t]; len(list) > 0 && r.rnd.Intn(3) > 0 {
		return list[r.rnd.Intn(len(list))], true
	}
	v := reflect.New(t).Elem()
	switch t.Kind() {
	case reflect.Int, reflect.Int32:
		v.SetInt(numbers[r.rnd.Intn(len(numbers))])
	case reflect.Uint8, reflect.Uint16, reflect.Uint32, reflect.Uint64:
		v.SetUint(uint64(numbers[r.rnd.Intn(len(numbers))]))
	case reflect.Bool:
		v.SetBool(r.rnd.Intn(2) == 0)
	case reflect.String:
		v.SetString(texts[r.rnd.Intn(len(texts))])
	case reflect.Float64:
		v.SetFloat(floats[r.rnd.Intn(len(floats))])
	case reflect.Slice:
		n := r.rnd.Intn(6)
		v.Set(reflect.MakeSlice(t, n, n+2))
		return v, r.fill(v, n)
	case reflect.Array:
		return v, r.fill(v, t.Len())
	case reflect.Struct:
		for i := range t.NumField() {
			x, is := r.value(t.Field(i).Type)
			if !is || !t.Field(i).IsExported() {
				return v, false
			}
			v.Field(i).Set(x)
		}
	default:
		return v, false
	}
	return v, true
}

func (r *run) fill(v reflect.Value, n int) bool {
	for i := range n {
		x, is := r.value(v.Type().Elem())
		if !is {
			return false
		}
		v.Index(i).Set(x)
	}
	return true
}

// copied returns a value whose lists have memory of their own, also behind their ends. Objects stay the same.
func copied(v reflect.Value) reflect.Value {
	c := reflect.New(v.Type()).Elem()
	c.Set(v)
	switch v.Kind() {
	case reflect.Slice:
		if !v.IsNil() {
			c.Set(reflect.MakeSlice(v.Type(), v.Len(), v.Len()+2))
		}
		for i := range v.Len() {
			c.Index(i).Set(copied(v.Index(i)))
		}
	case reflect.Struct:
		for i := range v.NumField() {
			if v.Type().Field(i).IsExported() {
				c.Field(i).Set(copied(v.Field(i)))
			}
		}
	}
	return c
}

// scribble overwrites the lists of a value.
func scribble(v reflect.Value) {
	switch v.Kind() {
	case reflect.Slice:
		for i := range v.Len() {
			scribble(v.Index(i))
			if k := v.Type().Elem().Kind(); k != reflect.Pointer {
				v.Index(i).SetZero()
			}
		}
	case reflect.Struct:
		for i := range v.NumField() {
			if v.Type().Field(i).IsExported() {
				scribble(v.Field(i))
			}
		}
	}
}

// spelt writes a value, also what lies behind the end of a list.
func spelt(v reflect.Value) string {
	switch v.Kind() {
	case reflect.Pointer, reflect.Interface:
		return "object"
	case reflect.Func:
		return elements(v)
	case reflect.Slice:
		if v.Type().Elem().Kind() == reflect.Pointer {
			return fmt.Sprint(v.Len(), " objects")
		}
		h := fnv.New64a()
		fmt.Fprintf(h, "%#v", v.Interface())
		return fmt.Sprint(v.Len(), " elements ", h.Sum64())
	}
	return fmt.Sprintf("%#v", v.Interface())
}

// elements writes the first elements of an iterator.
func elements(v reflect.Value) string {
	var list []string
	if v.Type().CanSeq() {
		for x := range v.Seq() {
			if list = append(list, spelt(x)); len(list) == 30 {
				break
			}
		}
	}
	return strings.Join(list, ", ")
}

// choose returns a function, or a method of an object.
func (r *run) choose(names []string) (string, reflect.Value) {
	if r.rnd.Intn(3) == 0 {
		name := names[r.rnd.Intn(len(names))]
		return name, reflect.ValueOf(functions[name])
	}
	types := slices.Collect(maps.Keys(r.pool))
	types = slices.DeleteFunc(types, func(t reflect.Type) bool { return t.NumMethod() == 0 })
	sort.Slice(types, func(i, k int) bool { return types[i].String() < types[k].String() })
	t := types[r.rnd.Intn(len(types))]
	v := r.pool[t][r.rnd.Intn(len(r.pool[t]))]
	m := r.rnd.Intn(t.NumMethod())
	return strings.TrimPrefix(t.String(), "*") + "." + t.Method(m).Name, v.Method(m)
}

// arguments returns any arguments; false: there are none, or they ask for much memory.
func (r *run) arguments(name string, f reflect.Type) ([]reflect.Value, bool) {
	args := make([]reflect.Value, f.NumIn())
	for i := range args {
		v, is := r.value(f.In(i))
		if !is {
			return nil, false
		}
		args[i] = copied(v)
	}
	sized := strings.HasSuffix(name, ".Resize") || name == "dev.New" || name == "spans.New" || name == "store.New"
	if sized && args[0].Int() > 1<<16 && args[0].Int() <= api.MaxCap {
		return nil, false
	}
	return args, true
}

// call returns the results of a call; false: it threw.
func (r *run) call(name string, f reflect.Value, args []reflect.Value) (out []reflect.Value, returned bool) {
	defer func() {
		p := recover()
		if _, is := p.(trap.Fault); p != nil && (!is || !slices.Contains(throwing, name)) {
			var list []string
			for _, a := range args {
				list = append(list, fmt.Sprintf("%#v", a.Interface()))
			}
			r.t.Fatalf("%s(%s) panics: %v", name, strings.Join(list, ", "), p)
		}
	}()
	if f.Type().IsVariadic() {
		return f.CallSlice(args), true
	}
	return f.Call(args), true
}

// next makes a call.
func (r *run) next(names []string) {
	name, f := r.choose(names)
	args, is := r.arguments(name, f.Type())
	if !is {
		return
	}
	i := len(r.told)
	if r.mode.skip[i] {
		r.told = append(r.told, "skipped")
		return
	}
	before := whole(args)
	out, returned := r.call(name, f, args)
	if whole(args) != before {
		r.t.Fatalf("%s changed its arguments", name)
	}
	if failed := !returned || hasError(out); failed {
		r.told = append(r.told, name+" failed")
		r.failed[i] = !slices.Contains(changing, name)
		return
	}
	var results []reflect.Value
	for _, o := range out {
		results = append(results, copied(o))
	}
	if r.mode.scribble {
		for _, v := range slices.Concat(args, out) {
			scribble(v)
		}
	}
	words := []string{name}
	for k, o := range results {
		// An iterator is used now, whatever has become of what it was made of.
		if o.Kind() == reflect.Func {
			words = append(words, elements(out[k]))
			continue
		}
		words = append(words, spelt(o))
		if o.Kind() != reflect.Pointer || !o.IsNil() {
			r.keep(o)
		}
	}
	r.told = append(r.told, strings.Join(words, " "))
}

// whole writes arguments, also what lies behind the ends of lists.
func whole(args []reflect.Value) string {
	var list []string
	for _, a := range args {
		if a.Kind() == reflect.Slice {
			a = a.Slice(0, a.Cap())
		}
		list = append(list, spelt(a))
	}
	return strings.Join(list, " ")
}

func hasError(out []reflect.Value) bool {
	for _, o := range out {
		if o.Type() == reflect.TypeFor[api.Errno]() && o.Int() != 0 {
			return true
		}
	}
	return false
}

func perform(t *testing.T, seed int64, m mode) *run {
	r := &run{t: t, rnd: rand.New(rand.NewSource(seed)), mode: m, pool: map[reflect.Type][]reflect.Value{}, failed: map[int]bool{}}
	r.seed()
	names := slices.Sorted(maps.Keys(functions))
	for range 1500 {
		r.next(names)
	}
	return r
}

// P1: no call panics, except for those that throw. P2, rule 4: arguments are not modified.
func TestP1(t *testing.T) {
	called := map[string]int{}
	for seed := range int64(60) {
		for _, s := range perform(t, seed, mode{}).told {
			name, _, _ := strings.Cut(s, " ")
			called[name]++
		}
	}
	for name := range functions {
		if called[name] == 0 && !strings.HasPrefix(name, "trap.") {
			t.Errorf("%s was never called", name)
		}
	}
	if len(called) < 300 {
		t.Errorf("only %d calls were made", len(called))
	}
}

// P2, rule 4: what a call is given is not retained, and what it returns is new memory: overwriting both changes nothing.
func TestP2Memory(t *testing.T) {
	for seed := range int64(60) {
		plain, scribbled := perform(t, seed, mode{}), perform(t, seed, mode{scribble: true})
		compare(t, seed, plain, scribbled)
	}
}

// P2, rule 3: a call that had an error can be left out.
func TestP2Errors(t *testing.T) {
	for seed := range int64(60) {
		plain := perform(t, seed, mode{})
		skip := map[int]bool{}
		for i, is := range plain.failed {
			skip[i] = is
		}
		compare(t, seed, plain, perform(t, seed, mode{skip: skip}))
	}
}

func compare(t *testing.T, seed int64, a, b *run) {
	t.Helper()
	for i := range min(len(a.told), len(b.told)) {
		if b.told[i] != "skipped" && a.told[i] != b.told[i] {
			t.Fatalf("seed %d: the call %d told %q, and then %q", seed, i, a.told[i], b.told[i])
		}
	}
	if len(a.told) != len(b.told) {
		t.Fatalf("seed %d: %d calls, and then %d", seed, len(a.told), len(b.told))
	}
}
