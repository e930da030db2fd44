package house

import (
	"slices"
	"strings"

	"cocket/api"
	"cocket/duty"
)

// formula is a program that computes a duty from a worth: it has one input, comes to its end, and has one out line, which is always executed.
type formula struct {
	name    string
	program api.Program
}

func (h *House) indexOfFormula(name string) int {
	return slices.IndexFunc(h.formulas, func(f formula) bool { return f.name == name })
}

func (h *House) makeFormula(p parameters) string {
	refuseIf(h.indexOfFormula(p[0]) >= 0, api.ErrExists)
	program, _, e := duty.Parse(strings.ReplaceAll(strings.Join(p[1:], " "), ";", "\n"))
	refuseIf(e != api.OK, api.ErrForm)
	refuseIf(len(program.Inputs) != 1 || countOuts(program.Steps) != 1 || !slices.ContainsFunc(program.Steps, isOut), api.ErrArg)
	report, e := duty.Analyse(program)
	refuse(e)
	refuseIf(report.Zero || report.Beyond || !report.Ends, api.ErrPlan)
	refuseIf(len(h.formulas) >= api.MaxFormulas, api.ErrFull)
	h.formulas = append(h.formulas, formula{p[0], program})
	return row(report.Outs[0].Lo, report.Outs[0].Hi)
}

func isOut(s api.Step) bool {
	return s.Kind == api.StepOut
}

// countOuts returns how many out lines there are among the steps and within them.
func countOuts(steps []api.Step) int {
	count := 0
	for _, s := range steps {
		if isOut(s) {
			count++
		}
		count += countOuts(s.Then) + countOuts(s.Else)
	}
	return count
}

// compute returns the duty on goods of that worth.
func (h *House) compute(name string, worth int) int {
	outs, e := duty.Run(h.formulas[h.indexOfFormula(name)].program, []int{worth})
	refuse(e)
	return outs[0]
}
