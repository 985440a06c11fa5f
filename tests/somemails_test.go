package tests

import (
	"math"
	"slices"
	"strconv"
	"testing"

	"loop.example/exopager/impl"
)

func mail(from int, to int, word int) impl.Mail {
	return impl.Mail{From: from, To: to, Word: word}
}

// writtenMails are valid messages that are written out: none, one, several and as many as may wait; from one environment to another one, from several to one, from one to several,
// and to oneself; some of them are the same message again.
func writtenMails() [][]impl.Mail {
	return [][]impl.Mail{
		nil,
		{},
		{mail(0, 0, 0)},
		{mail(2, 2, 9999)},
		{mail(0, 1, 7)},
		{mail(2, 0, 9999)},
		{mail(0, 1, 7), mail(0, 1, 8), mail(0, 1, 9)},
		{mail(0, 2, 5), mail(1, 2, 5), mail(2, 2, 5)},
		{mail(1, 0, 5), mail(1, 1, 5), mail(1, 2, 5)},
		{mail(1, 2, 4), mail(1, 2, 4), mail(1, 2, 4), mail(1, 2, 4)},
		{mail(0, 1, 1), mail(0, 0, 2), mail(1, 0, 3), mail(0, 0, 4), mail(2, 0, 5)},
		{mail(2, 1, 9), mail(1, 1, 8), mail(2, 2, 7), mail(1, 2, 6), mail(2, 2, 5)},
		{mail(0, 1, 1), mail(0, 2, 2), mail(0, 1, 3), mail(0, 2, 4), mail(0, 1, 5), mail(0, 2, 6)},
		{mail(0, 0, 0), mail(0, 0, 0), mail(1, 1, 0), mail(1, 1, 0), mail(2, 2, 0), mail(2, 2, 0), mail(2, 2, 0)},
		{mail(0, 1, 1), mail(1, 2, 2), mail(2, 0, 3), mail(0, 2, 4), mail(2, 1, 5), mail(1, 0, 6), mail(0, 0, 7)},
		{mail(0, 1, 9999), mail(1, 2, 0), mail(2, 0, 3), mail(0, 2, 4), mail(2, 1, 5), mail(1, 0, 6), mail(0, 0, 7), mail(1, 1, 8)},
		{mail(2, 1, 5), mail(0, 1, 5), mail(1, 1, 5), mail(2, 1, 5), mail(0, 1, 5), mail(1, 1, 5), mail(2, 1, 6), mail(0, 1, 6)},
		slices.Repeat([]impl.Mail{{}}, 8),
		slices.Repeat([]impl.Mail{mail(2, 2, 9999)}, 8),
		{mail(1, 1, 1), mail(1, 0, 2), mail(1, 1, 3), mail(0, 1, 4), mail(1, 1, 5), mail(1, 2, 6), mail(2, 1, 7), mail(1, 1, 8)},
	}
}

// allMails are the lists of up to four messages, each between any two environments or to oneself. Each list comes with different words, with a word that only the sender and the receiver
// tell, and with the same word everywhere.
func allMails() [][]impl.Mail {
	pairs := [][]int{{}}
	for from := 0; len(pairs[from]) < 4; from++ {
		for number := range 9 {
			pairs = append(pairs, append(slices.Clone(pairs[from]), number))
		}
	}
	lists := [][]impl.Mail{}
	for _, numbers := range pairs {
		for kind := range 3 {
			lists = append(lists, mailsOf(numbers, kind))
		}
	}
	return lists
}

func mailsOf(numbers []int, kind int) []impl.Mail {
	list := []impl.Mail{}
	for at, number := range numbers {
		word := [3]int{at * 3333, number * 1111, 9999}[kind]
		list = append(list, mail(number/3, number%3, word))
	}
	return list
}

// longMails follow a short rule, and have from five to eight messages; there are more of each length than pairs of environments.
func longMails() [][]impl.Mail {
	lists := [][]impl.Mail{}
	for number := range 600 {
		next := series(number + 1)
		list := []impl.Mail{}
		for range 5 + number%4 {
			list = append(list, mail(next(3), next(3), next(5)*2499+next(2)))
		}
		lists = append(lists, list)
	}
	return lists
}

func validMails() [][]impl.Mail {
	return slices.Concat(writtenMails(), allMails(), longMails())
}

// furtherMails are valid messages of each environment to each one, with words at the bounds and between them.
func furtherMails() []impl.Mail {
	list := []impl.Mail{}
	for number := range 9 {
		for _, word := range []int{0, 4 + number, 9999} {
			list = append(list, mail(number/3, number%3, word))
		}
	}
	return list
}

// edgeMails are one message with one field out of range: the nearest numbers, the farthest ones, and some that look valid if only a part of them is kept.
func edgeMails(m impl.Mail) []impl.Mail {
	list := faultyMail(m, -1, 3, 10000)
	for _, n := range badWords() {
		list = append(list, faultyMail(m, n, n, n)...)
	}
	for _, shift := range []int{16, 32, 62} {
		far := 1 << shift
		list = append(list, faultyMail(m, m.From+far, m.To+far, m.Word+far)...)
		list = append(list, faultyMail(m, m.From-far, m.To-far, m.Word-far)...)
	}
	return list
}

// faultyMail has the message with another sender, with another receiver, and with another word.
func faultyMail(m impl.Mail, from int, to int, word int) []impl.Mail {
	return []impl.Mail{mail(from, m.To, m.Word), mail(m.From, to, m.Word), mail(m.From, m.To, word)}
}

// someBadMails are few messages that are invalid by one field, or by more of them.
func someBadMails() []impl.Mail {
	return []impl.Mail{
		mail(-1, 0, 0), mail(3, 0, 0), mail(0, -1, 0), mail(0, 3, 0), mail(0, 0, -1), mail(0, 0, 10000),
		mail(3, 3, 5), mail(-1, -1, 5), mail(3, 1, 10000), mail(2, -1, -1), mail(-1, 3, 10000), mail(math.MinInt, math.MaxInt, math.MinInt),
	}
}

type namedMails struct {
	name string
	list []impl.Mail
}

// tooManyMails have only valid messages.
func tooManyMails() []namedMails {
	all := []namedMails{}
	for _, many := range []int{9, 10, 11, 12, 15, 16, 17, 24, 64, 255, 256, 257, 260, 264, 1000, 65536, 65540} {
		all = append(all,
			namedMails{strconv.Itoa(many) + " messages of zero", make([]impl.Mail, many)},
			namedMails{strconv.Itoa(many) + " messages", slices.Repeat(furtherMails(), many/27+1)[:many]})
	}
	return all
}

// faultyMails have one invalid message, at each place of lists of each length; each field has its turn.
func faultyMails() []namedMails {
	all := []namedMails{}
	for length := 1; length <= 8; length++ {
		valid := writtenMails()[15][:length]
		for at, m := range valid {
			for _, bad := range append(edgeMails(m), someBadMails()...) {
				list := slices.Clone(valid)
				list[at] = bad
				all = append(all, namedMails{"a fault at " + strconv.Itoa(at) + " of " + strconv.Itoa(length), list})
			}
		}
	}
	return all
}

// severalFaults have more than one fault: several invalid messages, or an invalid one among too many.
func severalFaults() []namedMails {
	all := []namedMails{}
	for _, bad := range someBadMails() {
		all = append(all,
			namedMails{"only faults", []impl.Mail{bad, bad}},
			namedMails{"eight faults", slices.Repeat([]impl.Mail{bad}, 8)},
			namedMails{"faults at both ends", []impl.Mail{bad, mail(0, 1, 2), bad}},
			namedMails{"a fault in front of eight", slices.Insert(slices.Clone(writtenMails()[15]), 0, bad)},
			namedMails{"a fault among eight", slices.Insert(slices.Clone(writtenMails()[15]), 4, bad)},
			namedMails{"a fault behind eight", append(slices.Clone(writtenMails()[15]), bad)})
	}
	return all
}

func invalidMails() []namedMails {
	return slices.Concat(tooManyMails(), faultyMails(), severalFaults())
}

// sentWords are the words that one environment has sent to another one.
func sentWords(list []impl.Mail, from int, to int) []int {
	words := []int{}
	for _, m := range list {
		if m.From == from && m.To == to {
			words = append(words, m.Word)
		}
	}
	return words
}

// firstTo is the place of the first message to an environment, or -1.
func firstTo(list []impl.Mail, env int) int {
	for at, m := range list {
		if m.To == env {
			return at
		}
	}
	return -1
}

func withoutMail(list []impl.Mail, at int) []impl.Mail {
	return slices.Concat(list[:at], list[at+1:])
}

func checkMails(t *testing.T, list []impl.Mail, want bool) {
	t.Helper()
	if got := impl.MailsValid(list); got != want {
		t.Errorf("of %v, MailsValid is %t", short(list), got)
	}
}

// checkSent expects that a message is sent, behind those that wait.
func checkSent(t *testing.T, list []impl.Mail, m impl.Mail) []impl.Mail {
	t.Helper()
	got, ok := impl.MailSend(list, m)
	if !ok || !slices.Equal(got, slices.Concat(list, []impl.Mail{m})) {
		t.Errorf("to %v, MailSend of %v returns %v, %t", list, m, got, ok)
	}
	return got
}

// checkFull expects that there is no room for a message.
func checkFull(t *testing.T, list []impl.Mail, m impl.Mail) {
	t.Helper()
	if got, ok := impl.MailSend(list, m); ok || !slices.Equal(got, list) {
		t.Errorf("to the full %v, MailSend of %v returns %v, %t", list, m, got, ok)
	}
}

// checkNoSend expects that an argument is invalid.
func checkNoSend(t *testing.T, list []impl.Mail, m impl.Mail) {
	t.Helper()
	if got, ok := impl.MailSend(list, m); ok || len(got) != 0 {
		t.Errorf("to %v, MailSend of %v returns %v, %t", short(list), m, short(got), ok)
	}
}

// checkTook expects that the message at a place is taken.
func checkTook(t *testing.T, list []impl.Mail, env int, at int) []impl.Mail {
	t.Helper()
	got, m, ok := impl.MailTake(list, env)
	if !ok || m != list[at] || !slices.Equal(got, withoutMail(list, at)) {
		t.Errorf("of %v, MailTake for %d returns %v, %v, %t", list, env, got, m, ok)
	}
	return got
}

// checkNoMail expects that there is no message to an environment.
func checkNoMail(t *testing.T, list []impl.Mail, env int) {
	t.Helper()
	if got, m, ok := impl.MailTake(list, env); ok || m != (impl.Mail{}) || !slices.Equal(got, list) {
		t.Errorf("of %v, MailTake for %d returns %v, %v, %t", list, env, got, m, ok)
	}
}

// checkTake expects what the place of the first message to an environment tells.
func checkTake(t *testing.T, list []impl.Mail, env int) {
	t.Helper()
	if at := firstTo(list, env); at >= 0 {
		checkTook(t, list, env, at)
		return
	}
	checkNoMail(t, list, env)
}

func checkMailWords(t *testing.T, list []impl.Mail, from int, to int, want ...int) {
	t.Helper()
	if got := impl.MailWords(list, from, to); !slices.Equal(got, want) {
		t.Errorf("of %v, MailWords from %d to %d returns %v, not %v", short(list), from, to, got, want)
	}
}

// checkAllWords looks at all pairs of environments, and at some with one that does not exist.
func checkAllWords(t *testing.T, list []impl.Mail) {
	t.Helper()
	for from := -1; from <= 3; from++ {
		for to := -1; to <= 3; to++ {
			checkMailWords(t, list, from, to, sentWords(list, from, to)...)
		}
	}
}

// checkInvalidMails tries all functions; some of the arguments would leave valid messages behind.
func checkInvalidMails(t *testing.T, name string, list []impl.Mail) {
	t.Helper()
	if impl.MailsValid(list) {
		t.Errorf("%s: %v is valid", name, short(list))
	}
	for env := -1; env <= 3; env++ {
		if got, m, ok := impl.MailTake(list, env); ok || m != (impl.Mail{}) || len(got) != 0 {
			t.Errorf("%s: of %v, MailTake for %d returns %v, %v, %t", name, short(list), env, short(got), m, ok)
		}
		for to := -1; to <= 3; to++ {
			checkMailWords(t, list, env, to)
		}
	}
	for _, m := range []impl.Mail{{}, mail(0, 1, 7), mail(2, 2, 9999), mail(-1, 0, 0), mail(0, 3, 0), mail(1, 1, 10000)} {
		checkNoSend(t, list, m)
	}
	for _, m := range list[:min(len(list), 9)] {
		checkNoSend(t, list, m)
		checkMailWords(t, list, m.From, m.To)
		if got, taken, ok := impl.MailTake(list, m.To); ok || taken != (impl.Mail{}) || len(got) != 0 {
			t.Errorf("%s: of %v, MailTake for %d returns %v, %v, %t", name, short(list), m.To, short(got), taken, ok)
		}
	}
}
