package tests

import (
	"slices"
	"testing"

	"loop.example/exopager/impl"
)

// P95 to P102: too many messages, and messages that are invalid, at each place, by each field, alone and together: nothing is returned, whatever the other arguments are.
func TestInvalidMails(t *testing.T) {
	for _, x := range invalidMails() {
		checkInvalidMails(t, x.name, x.list)
	}
}

// P96: a message that is invalid is not sent: not where there is room, nor where there is none. What the list is tells apart nothing and unchanged messages.
func TestSendOfInvalidMessages(t *testing.T) {
	for _, list := range writtenMails() {
		for _, m := range furtherMails() {
			for _, bad := range edgeMails(m) {
				checkNoSend(t, list, bad)
			}
		}
		for _, bad := range someBadMails() {
			checkNoSend(t, list, bad)
		}
	}
}

// P96, P102: every number that is out of range, as a sender, as a receiver and as a word.
func TestMailFieldsOutOfRange(t *testing.T) {
	check := func(bad impl.Mail) {
		checkMails(t, []impl.Mail{bad}, false)
		checkMails(t, []impl.Mail{mail(0, 1, 2), bad, {}}, false)
		checkNoSend(t, nil, bad)
		checkNoSend(t, slices.Repeat([]impl.Mail{{}}, 8), bad)
	}
	for _, n := range noneOf(3) {
		check(mail(n, 0, 5))
		check(mail(2, n, 5))
	}
	for _, n := range allNumbers() {
		if n < 0 || n > 9999 {
			check(mail(1, 2, n))
		}
	}
}

// P102: the sender, the receiver and the word just at the bounds and beside them: valid exactly if all three are in range.
func TestMailsAtTheBounds(t *testing.T) {
	for from := -2; from <= 4; from++ {
		for to := -2; to <= 4; to++ {
			for _, word := range []int{-2, -1, 0, 1, 9998, 9999, 10000, 10001} {
				want := from >= 0 && from <= 2 && to >= 0 && to <= 2 && word >= 0 && word <= 9999
				m := mail(from, to, word)
				checkMails(t, []impl.Mail{m}, want)
				checkMails(t, []impl.Mail{{}, m}, want)
				checkMails(t, append(slices.Clone(writtenMails()[15][:7]), m), want)
				if want {
					checkSent(t, nil, m)
					continue
				}
				checkNoSend(t, nil, m)
			}
		}
	}
}

// P98: an environment that does not exist has got no message; the messages are unchanged.
func TestTakeOfNoEnvironment(t *testing.T) {
	for _, list := range writtenMails() {
		for _, env := range noneOf(3) {
			checkNoMail(t, list, env)
		}
	}
	for _, list := range allMails() {
		checkNoMail(t, list, -1)
		checkNoMail(t, list, 3)
	}
}

// P101: there are no words from or to an environment that does not exist.
func TestWordsOfNoEnvironment(t *testing.T) {
	for _, list := range writtenMails() {
		for _, env := range noneOf(3) {
			checkMailWords(t, list, env, env)
			for other := range 3 {
				checkMailWords(t, list, env, other)
				checkMailWords(t, list, other, env)
			}
		}
	}
}

// P96, P102: one message more than there is room for, however the list came to be so long.
func TestOneMessageTooMuch(t *testing.T) {
	for _, list := range slices.Concat(writtenMails(), longMails()) {
		if len(list) != 8 {
			continue
		}
		for at := range 9 {
			longer := slices.Insert(slices.Clone(list), at, list[at%8])
			checkMails(t, longer, false)
			checkNoSend(t, longer, list[0])
			for env := range 3 {
				if got, m, ok := impl.MailTake(longer, env); ok || m != (impl.Mail{}) || len(got) != 0 {
					t.Errorf("of %v, MailTake for %d returns %v, %v, %t", longer, env, got, m, ok)
				}
				checkMailWords(t, longer, env, list[0].To)
			}
			checkMails(t, withoutMail(longer, 8-at), true)
		}
	}
}

// P98, P102: messages that would be valid without the one that is taken, or without those behind it.
func TestMailsThatWouldBeMended(t *testing.T) {
	for _, bad := range []impl.Mail{mail(3, 1, 5), mail(-1, 1, 5), mail(0, 1, 10000), mail(0, 1, -1), mail(0, 3, 5), mail(0, -1, 5)} {
		for _, list := range [][]impl.Mail{{bad}, {bad, mail(0, 2, 5)}, {mail(0, 2, 5), bad}, {mail(0, 1, 4), bad}, {mail(1, 1, 4), mail(2, 2, 4), bad, mail(0, 0, 4)}} {
			checkInvalidMails(t, "one fault", list)
		}
	}
	checkInvalidMails(t, "nine", slices.Repeat([]impl.Mail{mail(1, 1, 5)}, 9))
}
