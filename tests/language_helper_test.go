package tests

import (
	"fmt"
	"maps"
	"regexp"
	"slices"
	"strconv"
	"strings"
	"testing"

	"loop.example/scottdomains/impl"
)

// phrase is a term by its head, which is a word or a name, the name and the type behind it if there are some, and its parts.
type phrase struct {
	head, name, kind string
	parts            []phrase
}

// sense is a type with its domain, by the document's sentence, and the functions if it is one of functions.
type sense struct {
	order     above
	funs      [][]int
	first, to string
}

// senses has the types that were asked for already; those that are not known are nil.
type senses map[string]*sense

// speaker makes terms that depend on a seed alone, with functions and pairs of some types, or of all if none are told.
type speaker struct {
	seed  uint32
	kinds []string
}

// heads tells for each word how many parts are behind it.
var heads = map[string]int{"lam": 1, "app": 2, "pair": 2, "fst": 1, "snd": 1, "if": 3, "fix": 1, "por": 2, "bot": 0}

// atomsOf returns the number of atoms of a text.
func atomsOf(text string) int {
	return len(strings.FieldsFunc(text, func(c rune) bool { return strings.ContainsRune("() ", c) }))
}

// depthOf returns the number of parentheses within each other in a text.
func depthOf(text string) int {
	depth, most := 0, 0
	for _, c := range []byte(text) {
		if c == '(' {
			depth++
		} else if c == ')' {
			depth--
		}
		most = max(most, depth)
	}
	return most
}

// The marks that types and terms become, one by one, in isTerm: a type becomes one with the number of its atoms.
var (
	typeMark  = regexp.MustCompile(`\([>*] (b|#[0-9]+;) (b|#[0-9]+;)\)`)
	wholeMark = regexp.MustCompile(`^(?:b|#[0-9]+;)$`)
	termMark  = func() *regexp.Regexp {
		name, kind := `[a-z][0-9]{0,3}`, `(?:b|#[0-9]+;)`
		part := ` (?:@|tt|ff|` + name + `)`
		return regexp.MustCompile(`\((?:(?:lam|fix) ` + name + ` ` + kind + part + `|(?:app|pair|por)` + part + part + `|(?:fst|snd)` + part + `|if` + part + part + part + `|bot ` + kind + `)\)`)
	}()
	leafMark  = regexp.MustCompile(`^(?:@|tt|ff|[a-z][0-9]{0,3})$`)
	langBytes = regexp.MustCompile(`^[a-z0-9()>* ]*$`)
)

// markTypes returns a text with a mark for each type; what has more than 9 atoms is none.
func markTypes(text string) string {
	for {
		next := typeMark.ReplaceAllStringFunc(text, func(s string) string {
			atoms := 1
			for _, part := range strings.Fields(strings.Trim(s, "()"))[1:] {
				if part == "b" {
					part = "#1;"
				}
				n, _ := strconv.Atoi(part[1 : len(part)-1])
				atoms += n
			}
			if atoms > 9 {
				return "!"
			}
			return "#" + strconv.Itoa(atoms) + ";"
		})
		if next == text {
			return text
		}
		text = next
	}
}

// isType reports whether a text is a type.
func isType(text string) bool {
	if !langBytes.MatchString(text) {
		return false
	}
	return wholeMark.MatchString(markTypes(text))
}

// isTerm reports whether a text is a term: it becomes a mark when again and again a form whose parts are marks or words becomes one.
func isTerm(text string) bool {
	if !langBytes.MatchString(text) || atomsOf(text) > 1200 || depthOf(text) > 200 {
		return false
	}
	text = markTypes(text)
	for {
		next := termMark.ReplaceAllString(text, "@")
		if next == text {
			return leafMark.MatchString(text)
		}
		text = next
	}
}

// phraseOf returns the term that a valid text is.
func phraseOf(text string) phrase {
	words := strings.Fields(strings.NewReplacer("(", " ( ", ")", " ) ").Replace(text))
	next := func() string {
		word := words[0]
		words = words[1:]
		return word
	}
	var kind func() string
	kind = func() string {
		word := next()
		if word == "(" {
			word = "(" + next() + " " + kind() + " " + kind() + next()
		}
		return word
	}
	var read func() phrase
	read = func() phrase {
		word := next()
		if word != "(" {
			return phrase{head: word}
		}
		p := phrase{head: next()}
		if p.head == "lam" || p.head == "fix" {
			p.name = next()
		}
		if p.name != "" || p.head == "bot" {
			p.kind = kind()
		}
		for range heads[p.head] {
			p.parts = append(p.parts, read())
		}
		next()
		return p
	}
	return read()
}

// text returns the text of a term.
func (p phrase) text() string {
	words := []string{p.head}
	for _, word := range []string{p.name, p.kind} {
		if word != "" {
			words = append(words, word)
		}
	}
	for _, part := range p.parts {
		words = append(words, part.text())
	}
	if len(words) == 1 {
		return p.head
	}
	return "(" + strings.Join(words, " ") + ")"
}

// binds reports whether a term binds a name in its part.
func (p phrase) binds() bool {
	return p.head == "lam" || p.head == "fix"
}

// halves returns the sign and both parts of a type, or nothing of b and of no type.
func halves(kind string) (string, string, string) {
	if len(kind) < 7 {
		return "", "", ""
	}
	depth, rest := 0, kind[3:len(kind)-1]
	for i, c := range []byte(rest) {
		switch {
		case c == '(':
			depth++
		case c == ')':
			depth--
		case c == ' ' && depth == 0:
			return kind[1:2], rest[:i], rest[i+1:]
		}
	}
	return "", "", ""
}

// kindIn returns the type of a term whose free names have types, or nothing if it has none, and keeps the types of all parts.
func (p phrase) kindIn(names map[string]string, kept map[string]bool) string {
	around := names
	if p.binds() {
		around = maps.Clone(names)
		around[p.name] = p.kind
	}
	var kinds []string
	for _, part := range p.parts {
		kind := part.kindIn(around, kept)
		if kind == "" {
			return ""
		}
		kinds = append(kinds, kind)
	}
	kind := p.kindOf(kinds, names)
	if atomsOf(kind) > 9 {
		return ""
	}
	kept[kind] = true
	return kind
}

// kindOf returns the type of a term whose parts have types, or nothing if it has none.
func (p phrase) kindOf(kinds []string, names map[string]string) string {
	switch p.head {
	case "tt", "ff":
		return "b"
	case "lam":
		return "(> " + p.kind + " " + kinds[0] + ")"
	case "app":
		if sign, from, to := halves(kinds[0]); sign == ">" && from == kinds[1] {
			return to
		}
	case "pair":
		return "(* " + kinds[0] + " " + kinds[1] + ")"
	case "fst", "snd":
		if sign, first, second := halves(kinds[0]); sign == "*" {
			return map[string]string{"fst": first, "snd": second}[p.head]
		}
	case "if":
		if kinds[0] == "b" && kinds[1] == kinds[2] {
			return kinds[1]
		}
	case "fix":
		if kinds[0] == p.kind {
			return p.kind
		}
	case "por":
		if kinds[0] == "b" && kinds[1] == "b" {
			return "b"
		}
	case "bot":
		return p.kind
	default:
		return names[p.head]
	}
	return ""
}

// kindOfText returns the type of a text, or nothing if it is no term without free names or has none, and the types of all parts.
func kindOfText(text string) (string, map[string]bool) {
	kept := map[string]bool{}
	if !isTerm(text) {
		return "", kept
	}
	return phraseOf(text).kindIn(map[string]string{}, kept), kept
}

// of returns what a type is, or nil if it is not known.
func (s senses) of(kind string) *sense {
	known, has := s[kind]
	if !has {
		known = s.made(kind)
		s[kind] = known
	}
	return known
}

// made makes what a type is of what its parts are.
func (s senses) made(kind string) *sense {
	if kind == "b" {
		return &sense{order: aboveOf(flat(2))}
	}
	sign, left, right := halves(kind)
	first, second := s.of(left), s.of(right)
	if first == nil || second == nil {
		return nil
	}
	if sign == "*" {
		if len(first.order)*len(second.order) > 200 {
			return nil
		}
		return &sense{order: first.order.product(second.order), first: left, to: right}
	}
	funs, ok := first.order.functionsOf(second.order)
	if !ok {
		return nil
	}
	return &sense{second.order.pointwise(funs), funs, left, right}
}

// allKnown reports whether all of some types are known.
func (s senses) allKnown(kinds map[string]bool) bool {
	for kind := range kinds {
		if s.of(kind) == nil {
			return false
		}
	}
	return true
}

// mean returns what a term means whose free names have types and mean elements, by the document's sentences, and its type.
func (s senses) mean(p phrase, kinds map[string]string, names map[string]int) (int, string) {
	if p.binds() {
		return s.meanBound(p, kinds, names)
	}
	var parts []int
	var types []string
	for _, part := range p.parts {
		element, kind := s.mean(part, kinds, names)
		parts, types = append(parts, element), append(types, kind)
	}
	kind := p.kindOf(types, kinds)
	switch p.head {
	case "tt":
		return 2, kind
	case "ff":
		return 1, kind
	case "app":
		return s.of(types[0]).funs[parts[0]][parts[1]], kind
	case "pair":
		return parts[0]*len(s.of(types[1]).order) + parts[1], kind
	case "fst":
		return parts[0] / len(s.of(s.of(types[0]).to).order), kind
	case "snd":
		return parts[0] % len(s.of(s.of(types[0]).to).order), kind
	case "if":
		return []int{s.of(kind).order.least(), parts[2], parts[1]}[parts[0]], kind
	case "por":
		return [][]int{{0, 0, 2}, {0, 1, 2}, {2, 2, 2}}[parts[0]][parts[1]], kind
	case "bot":
		return s.of(kind).order.least(), kind
	}
	return names[p.head], kind
}

// meanBound is mean of a term that binds a name: the function of what its part means, or the least element that this does not change.
func (s senses) meanBound(p phrase, kinds map[string]string, names map[string]int) (int, string) {
	kinds, names = maps.Clone(kinds), maps.Clone(names)
	kinds[p.name] = p.kind
	var to string
	has := func(k int) int {
		names[p.name] = k
		element, kind := s.mean(p.parts[0], kinds, names)
		to = kind
		return element
	}
	d := s.of(p.kind).order
	if p.head == "fix" {
		return d.leastFixed(has), p.kind
	}
	var list []int
	for k := range d {
		list = append(list, has(k))
	}
	kind := "(> " + p.kind + " " + to + ")"
	at, _ := slices.BinarySearchFunc(s.of(kind).funs, list, slices.Compare[[]int])
	return at, kind
}

// leastFixed returns the element that a function does not change and that is below all others of these; where there are many elements, the first one that is not changed from the least one on.
func (a above) leastFixed(has func(k int) int) int {
	if len(a) > 33 {
		k := a.least()
		for has(k) != k {
			k = has(k)
		}
		return k
	}
	var fixed []int
	for k := range a {
		if has(k) == k {
			fixed = append(fixed, k)
		}
	}
	return fixed[slices.IndexFunc(fixed, func(k int) bool {
		return !slices.ContainsFunc(fixed, func(other int) bool { return !a[k][other] })
	})]
}

// meanText returns what a text means, and its type, and whether it means something.
func (s senses) meanText(text string) (int, string, bool) {
	kind, kept := kindOfText(text)
	if kind == "" || !s.allKnown(kept) {
		return 0, "", false
	}
	element, kind := s.mean(phraseOf(text), map[string]string{}, map[string]int{})
	return element, kind, true
}

// isValue reports whether a term is a value.
func (p phrase) isValue() bool {
	return slices.Contains([]string{"tt", "ff", "lam", "pair"}, p.head)
}

// put returns a term with another one for a name, where it is not bound.
func (p phrase) put(name string, value phrase) phrase {
	if p.head == name && len(p.parts) == 0 && p.kind == "" {
		return value
	}
	if p.binds() && p.name == name {
		return p
	}
	parts := slices.Clone(p.parts)
	for i := range parts {
		parts[i] = parts[i].put(name, value)
	}
	p.parts = parts
	return p
}

// stepped returns the term behind a step, by the document's sentences; a value takes none.
func (p phrase) stepped() phrase {
	if p.isValue() || p.head == "bot" {
		return p
	}
	if p.head == "fix" {
		return p.parts[0].put(p.name, p)
	}
	first := p.parts[0]
	switch key := p.head + " " + first.head; {
	case key == "app lam":
		return first.parts[0].put(first.name, p.parts[1])
	case key == "fst pair":
		return first.parts[0]
	case key == "snd pair":
		return first.parts[1]
	case key == "if tt":
		return p.parts[1]
	case key == "if ff":
		return p.parts[2]
	case key == "por tt" || p.head == "por" && p.parts[1].head == "tt":
		return phrase{head: "tt"}
	case key == "por ff" && p.parts[1].head == "ff":
		return phrase{head: "ff"}
	}
	parts := slices.Clone(p.parts)
	parts[0] = first.stepped()
	if p.head == "por" {
		parts[1] = parts[1].stepped()
	}
	p.parts = parts
	return p
}

// stepText returns the text of the term behind a step of a text that has a type, and whether there is one.
func stepText(text string) (string, bool) {
	p := phraseOf(text)
	next := p.stepped().text()
	return next, !p.isValue() && atomsOf(next) <= 1200 && depthOf(next) <= 200
}

// runText returns the value to which a text that has a type comes, and the steps, and whether there is one.
func runText(text string, fuel int) (string, int, bool) {
	for steps := 0; ; steps++ {
		if phraseOf(text).isValue() {
			return text, steps, true
		}
		next, ok := stepText(text)
		if !ok || steps == fuel {
			return "", 0, false
		}
		text = next
	}
}

// next returns a number from 0 to limit - 1.
func (s *speaker) next(limit int) int {
	s.seed = s.seed*1664525 + 1013904223
	return int(s.seed>>16) % limit
}

// choose returns one of some texts.
func (s *speaker) choose(texts ...string) string {
	return texts[s.next(len(texts))]
}

// term returns a term of a type of about so many forms, whose free names have types.
func (s *speaker) term(kind string, size int, names map[string]string) string {
	sign, from, to := halves(kind)
	if size <= 1 {
		return s.leaf(kind, names)
	}
	half := size / 2
	switch choice := s.next(12); {
	case choice < 4 && sign == ">":
		return s.bound("lam", from, to, size-1, names)
	case choice < 4 && sign == "*":
		return "(pair " + s.term(from, half, names) + " " + s.term(to, half, names) + ")"
	case choice < 3:
		return "(por " + s.term("b", half, names) + " " + s.term("b", half, names) + ")"
	case choice < 5:
		return "(if " + s.term("b", size/3, names) + " " + s.term(kind, size/3, names) + " " + s.term(kind, size/3, names) + ")"
	case choice < 7:
		return s.bound("fix", kind, kind, size-1, names)
	case choice < 10:
		other := s.choose("b", "b", "b", "(* b b)", "(> b b)")
		if function := "(> " + other + " " + kind + ")"; s.may(function) {
			return "(app " + s.term(function, half, names) + " " + s.term(other, half, names) + ")"
		}
	default:
		other := s.choose("b", "b", "(> b b)")
		first, second := "(* "+kind+" "+other+")", "(* "+other+" "+kind+")"
		if choice == 10 && s.may(first) {
			return "(fst " + s.term(first, size-1, names) + ")"
		} else if s.may(second) {
			return "(snd " + s.term(second, size-1, names) + ")"
		}
	}
	return s.leaf(kind, names)
}

// may reports whether terms of a type are made.
func (s *speaker) may(kind string) bool {
	return atomsOf(kind) <= 9 && (len(s.kinds) == 0 || slices.Contains(s.kinds, kind))
}

// bound returns a term with a head that binds a name of a type in a term of a type.
func (s *speaker) bound(head string, kind string, within string, size int, names map[string]string) string {
	name := s.choose("x", "y", "b", "f1", "z09", "a123")
	around := maps.Clone(names)
	around[name] = kind
	return "(" + head + " " + name + " " + kind + " " + s.term(within, size, around) + ")"
}

// leaf returns a name of a type if there is one, and otherwise one of the least terms of the type.
func (s *speaker) leaf(kind string, names map[string]string) string {
	for _, name := range slices.Sorted(maps.Keys(names)) {
		if names[name] == kind && s.next(3) > 0 {
			return name
		}
	}
	sign, from, to := halves(kind)
	switch {
	case kind == "b" && s.next(4) > 0:
		return s.choose("tt", "ff")
	case sign == ">" && s.next(4) > 0:
		return s.bound("lam", from, to, 1, names)
	case sign == "*" && s.next(4) > 0:
		return "(pair " + s.leaf(from, names) + " " + s.leaf(to, names) + ")"
	}
	return "(bot " + kind + ")"
}

// typesOf returns all types of so many atoms.
func typesOf(atoms int) []string {
	if atoms == 1 {
		return []string{"b"}
	}
	var all []string
	for first := 1; first < atoms-1; first++ {
		for _, s := range typesOf(first) {
			for _, r := range typesOf(atoms - 1 - first) {
				all = append(all, "(> "+s+" "+r+")", "(* "+s+" "+r+")")
			}
		}
	}
	return all
}

// allTypes returns all types.
func allTypes() []string {
	return slices.Concat(typesOf(1), typesOf(3), typesOf(5), typesOf(7), typesOf(9))
}

// knownKinds returns the types that are known.
func knownKinds() []string {
	return slices.DeleteFunc(allTypes(), func(kind string) bool {
		_, ok := impl.LangDomain(kind)
		return !ok
	})
}

// madeTerms returns so many terms made from seeds, of all known types and some others; in three of four there are known types alone.
func madeTerms(count int) []string {
	known := knownKinds()
	kinds := append(slices.Clone(known), "b", "b", "b", "b", "b", "b", "b", "(> b b)", "(> b b)", "(* b b)", "(* b b)")
	others := []string{"b", "b", "(> b b)", "(> (> b b) b)", "(> (> b b) (> b b))", "(* (> (* b b) b) b)"}
	var all []string
	for seed := range count {
		s, kind := speaker{uint32(seed)*7919 + 3, known}, kinds[seed/3%len(kinds)]
		if seed%4 == 0 {
			s.kinds, kind = nil, others[seed/4%len(others)]
		}
		all = append(all, s.term(kind, 2+seed%23, map[string]string{}))
	}
	return all
}

// termsOf returns all terms of so many atoms with these leaves and binders, typed or not, with free names or without.
func termsOf(atoms int, leaves []string, binders []string) []string {
	if atoms == 1 {
		return leaves
	}
	var all []string
	wrap := func(head string, parts int) {
		for _, list := range partLists(atoms-atomsOf(head), parts, leaves, binders) {
			all = append(all, "("+head+" "+list+")")
		}
	}
	for _, head := range []string{"fst", "snd"} {
		wrap(head, 1)
	}
	for _, head := range binders {
		wrap(head, 1)
	}
	for _, head := range []string{"app", "pair", "por"} {
		wrap(head, 2)
	}
	wrap("if", 3)
	if atoms == 2 {
		all = append(all, "(bot b)")
	}
	if atoms == 4 {
		all = append(all, "(bot (> b b))", "(bot (* b b))")
	}
	return all
}

// partLists returns all lists of so many terms that have so many atoms together.
func partLists(atoms int, parts int, leaves []string, binders []string) []string {
	if atoms < parts {
		return nil
	}
	if parts == 1 {
		return termsOf(atoms, leaves, binders)
	}
	var all []string
	for first := 1; first <= atoms-parts+1; first++ {
		rest := partLists(atoms-first, parts-1, leaves, binders)
		for _, s := range termsOf(first, leaves, binders) {
			for _, r := range rest {
				all = append(all, s+" "+r)
			}
		}
	}
	return all
}

// smallTerms returns all terms of at most so many atoms with the names x and b, of which b is one of the language's words, too.
func smallTerms(atoms int) []string {
	var all []string
	for n := 1; n <= atoms; n++ {
		all = append(all, termsOf(n, []string{"tt", "ff", "x", "b"}, []string{"lam x b", "lam b b", "fix x b", "lam x (> b b)"})...)
	}
	return all
}

// namedTerms returns terms that are known, by what they mean.
func namedTerms() []namedTerm {
	return []namedTerm{
		{"tt", "b", 2},
		{"ff", "b", 1},
		{"(bot b)", "b", 0},
		{"(bot (> b (> b b)))", "(> b (> b b))", 0},
		{"(lam x b x)", "(> b b)", 5},
		{"(lam x b tt)", "(> b b)", 10},
		{"(lam x b ff)", "(> b b)", 9},
		{"(lam x b (if x ff tt))", "(> b b)", 7},
		{"(lam x b (if x tt tt))", "(> b b)", 8},
		{"(lam x b (if x tt (bot b)))", "(> b b)", 2},
		{"(lam x b (if x (bot b) tt))", "(> b b)", 6},
		{"(lam x b (por x tt))", "(> b b)", 10},
		{"(lam x b (por x ff))", "(> b b)", 5},
		{"(lam x b (por x (bot b)))", "(> b b)", 2},
		{"(lam b b b)", "(> b b)", 5},
		{"(lam x b (lam x b x))", "(> b (> b b))", -1},
		{"(pair tt ff)", "(* b b)", 7},
		{"(pair (bot b) tt)", "(* b b)", 2},
		{"(pair ff (bot b))", "(* b b)", 3},
		{"(pair tt (lam x b x))", "(* b (> b b))", 27},
		{"(pair (lam x b x) tt)", "(* (> b b) b)", 17},
		{"(fst (pair tt ff))", "b", 2},
		{"(snd (pair tt ff))", "b", 1},
		{"(fst (pair (lam x b x) tt))", "(> b b)", 5},
		{"(snd (fst (pair (pair tt (lam x b ff)) tt)))", "(> b b)", 9},
		{"(if tt tt ff)", "b", 2},
		{"(if ff tt ff)", "b", 1},
		{"(if (bot b) tt tt)", "b", 0},
		{"(if (bot b) (lam x b tt) (lam x b tt))", "(> b b)", 0},
		{"(if ff (pair tt tt) (pair ff tt))", "(* b b)", 5},
		{"(por (bot b) tt)", "b", 2},
		{"(por tt (bot b))", "b", 2},
		{"(por (bot b) ff)", "b", 0},
		{"(por ff (bot b))", "b", 0},
		{"(por ff ff)", "b", 1},
		{"(app (lam x b (if x ff tt)) tt)", "b", 1},
		{"(app (if tt (lam x b ff) (bot (> b b))) (bot b))", "b", 1},
		{"(app (lam x b (app (lam x b (if x ff tt)) x)) ff)", "b", 2},
		{"(app (app (lam x b (lam y b (if x y ff))) tt) ff)", "b", 1},
		{"(app (lam x b (lam y b x)) tt)", "(> b b)", 10},
		{"(fix x b x)", "b", 0},
		{"(fix x b tt)", "b", 2},
		{"(fix x b (por x tt))", "b", 2},
		{"(fix x b (if x tt tt))", "b", 0},
		{"(fix f (> b b) f)", "(> b b)", 0},
		{"(fix f (> b b) (lam x b (app f x)))", "(> b b)", 0},
		{"(fix f (> b b) (lam x b (if x tt (app f x))))", "(> b b)", 2},
		{"(fix f (> b b) (lam x b (if x tt (app f tt))))", "(> b b)", 8},
		{"(fix f (> b b) (lam x b (if x (app f ff) ff)))", "(> b b)", 4},
		{"(fix f (> b b) (lam x b (por x (app f tt))))", "(> b b)", 10},
		{"(fix f (> b b) (lam x b (por x (app f ff))))", "(> b b)", 2},
		{"(fix f (> b b) (lam x b (por x (por x x))))", "(> b b)", 5},
		{"(fix p (* b b) (pair tt (fst p)))", "(* b b)", 8},
		{"(fix p (* b b) (pair (snd p) ff))", "(* b b)", 4},
		{"(fix p (* b b) (pair (snd p) (fst p)))", "(* b b)", 0},
		{"(fix p (* b (> b b)) (pair (app (snd p) tt) (lam x b (if x ff (fst p)))))", "(* b (> b b))", -1},
		{"(app (fix f (> b (> b b)) (lam x b (lam y b (if x y (app (app f tt) y))))) ff)", "(> b b)", 5},
		{"(fix f (> (* b b) b) (lam p (* b b) (if (fst p) (snd p) (app f (pair tt (fst p))))))", "(> (* b b) b)", -1},
		{"(app (fix f (> b b) (lam x b (app (fix g (> b b) (lam y b (if y tt (app f x)))) x))) tt)", "b", 2},
		{"(fix f (> b (* b b)) (lam x b (pair x (fst (app f tt)))))", "(> b (* b b))", -1},
	}
}

// namedTerm is a term with its type and what it means, or -1 if the number is not written here.
type namedTerm struct {
	text, kind string
	element    int
}

// someTerms returns the texts of the named terms, and some made from seeds.
func someTerms(count int) []string {
	var all []string
	for _, c := range namedTerms() {
		all = append(all, c.text)
	}
	return append(all, madeTerms(count)...)
}

// wrapped returns a text with so many others around it, each one with a % for what is within.
func wrapped(times int, form string, within string) string {
	ahead, behind, _ := strings.Cut(form, "%")
	return strings.Repeat(ahead, times) + within + strings.Repeat(behind, times)
}

// anyOf returns a term of b with so many atoms, an odd number, of which each one but one is within por.
func anyOf(atoms int) string {
	if atoms == 1 {
		return "ff"
	}
	first := (atoms - 1) / 2
	if first%2 == 0 {
		first--
	}
	return "(por " + anyOf(first) + " " + anyOf(atoms-1-first) + ")"
}

// wantText fails if a function did not give the wanted text.
func wantText(t *testing.T, what string, got string, ok bool, want string, there bool) {
	t.Helper()
	if ok != there || got != want {
		t.Errorf("%s = %.200q, %v, want %.200q, %v", what, got, ok, want, there)
	}
}

// wantNoTerm fails if some function of the chapter gives anything for a text that is no term, has free names, or has no type.
func wantNoTerm(t *testing.T, text string) {
	t.Helper()
	what := fmt.Sprintf("%.60q of %d bytes", text, len(text))
	kind, ok := impl.LangType(text)
	wantText(t, what+": LangType", kind, ok, "", false)
	element, ok := impl.LangMean(text)
	wantNoIndex(t, what+": LangMean", element, ok)
	next, ok := impl.LangStep(text)
	wantText(t, what+": LangStep", next, ok, "", false)
	for _, fuel := range []int{-1, 0, 1, impl.FuelMax, impl.FuelMax + 1} {
		wantNoRun(t, what, text, fuel)
	}
	if impl.LangPlain(text) {
		t.Errorf("%s: LangPlain", what)
	}
	for _, other := range []string{text, "tt", "(lam x b x)", ""} {
		if impl.LangSame(text, other) || impl.LangSame(other, text) || impl.LangBelow(text, other) || impl.LangBelow(other, text) {
			t.Errorf("%s: LangSame or LangBelow with %q", what, other)
		}
	}
}

// wantNoRun fails if LangRun gives anything.
func wantNoRun(t *testing.T, what string, text string, fuel int) {
	t.Helper()
	if value, steps, ok := impl.LangRun(text, fuel); ok || value != "" || steps != 0 {
		t.Errorf("%s: LangRun with %d = %.60q, %d, %v, want none", what, fuel, value, steps, ok)
	}
}
