package console

import (
	"armature/api"
	"armature/codegen"
	"armature/machine"
	"armature/parse"
	"armature/typeaudit"
	"slices"
	"strconv"
	"strings"
)

// desk is the state of a console.
type desk struct {
	loaders []api.Loader
	memory  int
	machine api.Machine
	begun   bool
	printed strings.Builder
}

func (d *desk) print(lines ...string) {
	for _, s := range lines {
		d.printed.WriteString(s)
		d.printed.WriteByte('\n')
	}
}

func (d *desk) printNumber(n int) { d.print(strconv.Itoa(n)) }

// report prints what a command prints, or its error.
func (d *desk) report(e api.Errno, line string) {
	if e != api.OK {
		line = "error " + strconv.Itoa(int(e))
	}
	d.print(line)
}

// execute executes a command; it reports false if the line is invalid.
func (d *desk) execute(command string, words []string) bool {
	switch command {
	case "loader":
		return d.addLoader(words)
	case "source":
		return d.addSource(words)
	case "memory":
		l, ok := numbers(words)
		if !ok || len(l) != 1 {
			return false
		}
		d.memory = l[0]
		d.print("ok")
	case "begin":
		if len(words) > 0 {
			return false
		}
		d.begin()
	default:
		return d.executeOnMachine(command, words)
	}
	return true
}

func (d *desk) addLoader(words []string) bool {
	var x api.Loader
	for _, w := range words {
		i := strings.LastIndexByte(w, '=')
		if i < 0 {
			return false
		}
		n, ok := number(w[i+1:])
		if !ok {
			return false
		}
		x.Delegations = append(x.Delegations, api.Delegation{Prefix: w[:i], To: n})
	}
	d.loaders = append(d.loaders, x)
	d.printNumber(len(d.loaders) - 1)
	return true
}

func (d *desk) addSource(words []string) bool {
	if len(words) != 2 {
		return false
	}
	n, ok := number(words[0])
	if !ok {
		return false
	}
	d.report(d.compile(n, words[1]), "ok")
	return true
}

func (d *desk) compile(n int, text string) api.Errno {
	if n < 0 || n >= len(d.loaders) {
		return api.ErrRange
	}
	l, _, e := parse.ParseProgram(text)
	if e != api.OK {
		return e
	}
	store, e := codegen.CompileStore(l)
	if e != api.OK {
		return e
	}
	d.loaders = slices.Clone(d.loaders)
	d.loaders[n].Store = append(slices.Clip(d.loaders[n].Store), store...)
	return api.OK
}

func (d *desk) begin() {
	m, e := machine.New(d.loaders, d.memory)
	if e == api.OK {
		d.machine, d.begun = m, true
	}
	d.report(e, "ok")
}

// executeOnMachine executes the commands that need a machine.
func (d *desk) executeOnMachine(command string, words []string) bool {
	run, ok := d.prepare(command, words)
	if !ok {
		return false
	}
	if d.begun {
		run()
	} else {
		d.report(api.ErrNotFound, "")
	}
	return true
}

// prepare checks the words of a command and returns what it does.
func (d *desk) prepare(command string, words []string) (func(), bool) {
	l, allNumbers := numbers(words)
	none := len(words) == 0
	switch command {
	case "main":
		if len(words) != 2 {
			return nil, false
		}
		n, ok := number(words[0])
		return func() { d.start(n, words[1]) }, ok
	case "pick":
		return func() { d.play(l) }, allNumbers && !none
	case "run":
		ok := allNumbers && len(l) == 1 && l[0] >= 0 && l[0] <= mostRun
		return func() { d.play(make([]int, l[0])) }, ok
	case "collect":
		soft := len(words) == 1 && words[0] == "soft"
		return func() { d.collect(soft) }, none || soft
	case "threads":
		return func() { d.print(machine.ThreadStatus(d.machine)...) }, none
	case "output":
		return func() { d.print(d.machine.Output...) }, none
	case "check":
		return func() { d.print(strconv.FormatBool(typeaudit.Consistent(d.machine))) }, none
	case "objects":
		return func() { d.printNumber(count(d.machine)) }, none
	case "classes":
		return d.printClasses, none
	}
	return nil, false
}

func (d *desk) start(loader int, class string) {
	m, t, e := machine.StartMain(d.machine, loader, class)
	d.machine = m
	d.report(e, strconv.Itoa(t))
}

func (d *desk) play(picks []int) {
	var l []api.Event
	for _, p := range picks {
		l = append(l, api.Event{Pick: p})
	}
	m, n, e := machine.Play(d.machine, l)
	d.machine = m
	d.report(e, strconv.Itoa(n))
}

func (d *desk) collect(soft bool) {
	m, e := machine.Apply(d.machine, api.Event{Collect: true, Soft: soft})
	freed := count(d.machine) - count(m)
	d.machine = m
	d.report(e, strconv.Itoa(freed))
}

func count(m api.Machine) int {
	n := 0
	for _, o := range m.Heap {
		if o.Kind != api.ObjFree {
			n++
		}
	}
	return n
}

func (d *desk) printClasses() {
	for _, c := range d.machine.Space.Classes {
		stage := "loaded"
		switch c.Stage {
		case api.Linked:
			stage = "linked"
		case api.LinkFailed:
			stage = "failed"
		}
		d.print(c.Model.Name + " " + strconv.Itoa(c.Loader) + " " + stage)
	}
}
