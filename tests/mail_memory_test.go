package tests

import (
	"slices"
	"strconv"
	"testing"

	"loop.example/exopager/impl"
)

var spoiledMail = mail(-77, -77, -77)

func spoilMails(list []impl.Mail) {
	for i := range list {
		list[i] = spoiledMail
	}
}

// roomyMails is the list in a slice with room behind it, which holds messages that do not count.
func roomyMails(list []impl.Mail) []impl.Mail {
	store := append(slices.Clone(list), mail(0, 1, 11), mail(1, 1, 22), mail(3, 0, 0), mail(2, 0, 33), mail(0, 0, 10000), mail(1, 2, 44), mail(2, 2, 55), mail(0, 2, 66), mail(1, 0, 77))
	return store[:len(list)]
}

// mailChanges send and take messages; among them are those that leave each list as it is, and those that fail.
func mailChanges() []listChange[impl.Mail] {
	all := []listChange[impl.Mail]{}
	for _, m := range []impl.Mail{{}, mail(0, 1, 7), mail(2, 2, 9999), mail(1, 3, 5), mail(1, 2, 10000)} {
		all = append(all, listChange[impl.Mail]{"MailSend from " + strconv.Itoa(m.From) + " to " + strconv.Itoa(m.To), func(list []impl.Mail) []impl.Mail {
			got, _ := impl.MailSend(list, m)
			return got
		}})
	}
	for env := -1; env <= 3; env++ {
		all = append(all, listChange[impl.Mail]{"MailTake for " + strconv.Itoa(env), func(list []impl.Mail) []impl.Mail {
			got, _, _ := impl.MailTake(list, env)
			return got
		}})
	}
	return all
}

// mailsToChange are valid and invalid lists.
func mailsToChange() [][]impl.Mail {
	lists := slices.Concat(writtenMails(), longMails()[:60])
	for i, list := range allMails() {
		if i%23 == 0 {
			lists = append(lists, list)
		}
	}
	for i, x := range invalidMails() {
		if i%29 == 0 && len(x.list) < 50 {
			lists = append(lists, x.list)
		}
	}
	return append(lists, slices.Repeat([]impl.Mail{{}}, 9))
}

// P95 to P102: no function changes a list, or what lies behind it, and none reads that.
func TestMailsAreLeft(t *testing.T) {
	for _, start := range mailsToChange() {
		list := roomyMails(start)
		before := slices.Clone(list[:cap(list)])
		checkMails(t, list, impl.MailsValid(start))
		for from := -1; from <= 3; from++ {
			for to := -1; to <= 3; to++ {
				checkMailWords(t, list, from, to, impl.MailWords(start, from, to)...)
			}
		}
		if !slices.Equal(list[:cap(list)], before) {
			t.Fatalf("%v is changed to %v", before, list[:cap(list)])
		}
		checkUntouched(t, start, roomyMails, mailChanges())
	}
}

// P95 to P98: a result and the list of which it was made share nothing, also where the messages are unchanged.
func TestChangedMailsShareNothing(t *testing.T) {
	for _, start := range mailsToChange() {
		checkApart(t, start, roomyMails, spoiledMail, mailChanges())
		checkApart(t, start, slices.Clone, spoiledMail, mailChanges())
	}
}

// P95 to P98: two results of one list share nothing.
func TestTwoMailsShareNothing(t *testing.T) {
	for _, start := range append(writtenMails(), longMails()[:40]...) {
		checkResultsApart(t, start, roomyMails, spoiledMail, mailChanges())
	}
}

// P96, P98: results that are unchanged messages, of a full list and for an environment without messages, share nothing, and hold no others back.
func TestUnchangedMailsShareNothing(t *testing.T) {
	full := slices.Repeat([]impl.Mail{mail(0, 1, 5), mail(2, 1, 6)}, 4)
	want := slices.Clone(full)
	one, _ := impl.MailSend(full, mail(0, 0, 0))
	two, _, _ := impl.MailTake(full, 0)
	three, _, _ := impl.MailTake(full, 3)
	spoilMails(one)
	if !slices.Equal(full, want) {
		t.Errorf("the messages are changed to %v", full)
	}
	longer := append(two, mail(0, 0, 7))
	spoilMails(full)
	if !slices.Equal(two, want) || !slices.Equal(three, want) || !slices.Equal(longer, append(slices.Clone(want), mail(0, 0, 7))) {
		t.Errorf("the messages are %v and %v", two, three)
	}
	spoilMails(two)
	if !slices.Equal(three, want) {
		t.Errorf("the messages are %v", three)
	}
}

// P101: words share nothing with the messages, nor with the words of another call.
func TestWordsShareNothing(t *testing.T) {
	for _, start := range writtenMails() {
		list := roomyMails(start)
		for from := range 3 {
			for to := range 3 {
				want := sentWords(start, from, to)
				one, two := impl.MailWords(list, from, to), impl.MailWords(list, from, to)
				spoilList(one)
				appendToList(one)
				checkAllWords(t, list)
				spoilMails(list)
				if !slices.Equal(two, want) {
					t.Errorf("of %v, the words from %d to %d are changed to %v", start, from, to, two)
				}
				copy(list, start)
			}
		}
	}
}

// P97: what is taken is a copy: it stays when the messages are changed.
func TestTakenMessageStays(t *testing.T) {
	list := []impl.Mail{mail(0, 1, 5), mail(0, 2, 6), mail(1, 0, 7)}
	got, m, _ := impl.MailTake(list, 2)
	spoilMails(list)
	spoilMails(got)
	if m != mail(0, 2, 6) {
		t.Errorf("the message is changed to %v", m)
	}
}

// P95, P97: messages that come from a call are changed by none that gets them.
func TestMailsOfMails(t *testing.T) {
	list := []impl.Mail{mail(0, 1, 1), mail(1, 1, 2), mail(0, 2, 3)}
	more, _ := impl.MailSend(list, mail(2, 2, 4))
	most, _ := impl.MailSend(more, mail(2, 0, 5))
	other, _ := impl.MailSend(more, mail(1, 0, 6))
	less, _, _ := impl.MailTake(most, 1)
	least, _, _ := impl.MailTake(less, 1)
	back, _ := impl.MailSend(least, mail(0, 0, 7))
	again, _ := impl.MailSend(least, mail(0, 0, 8))
	wants := [][]impl.Mail{
		{mail(0, 1, 1), mail(1, 1, 2), mail(0, 2, 3)},
		{mail(0, 1, 1), mail(1, 1, 2), mail(0, 2, 3), mail(2, 2, 4)},
		{mail(0, 1, 1), mail(1, 1, 2), mail(0, 2, 3), mail(2, 2, 4), mail(2, 0, 5)},
		{mail(0, 1, 1), mail(1, 1, 2), mail(0, 2, 3), mail(2, 2, 4), mail(1, 0, 6)},
		{mail(1, 1, 2), mail(0, 2, 3), mail(2, 2, 4), mail(2, 0, 5)},
		{mail(0, 2, 3), mail(2, 2, 4), mail(2, 0, 5)},
		{mail(0, 2, 3), mail(2, 2, 4), mail(2, 0, 5), mail(0, 0, 7)},
		{mail(0, 2, 3), mail(2, 2, 4), mail(2, 0, 5), mail(0, 0, 8)},
	}
	for i, got := range [][]impl.Mail{list, more, most, other, less, least, back, again} {
		if !slices.Equal(got, wants[i]) {
			t.Errorf("list %d is %v, not %v", i, got, wants[i])
		}
		spoilMails(got)
	}
}

// P95 to P102: a call depends on nothing that earlier calls did.
func TestNoMessageIsKept(t *testing.T) {
	list := []impl.Mail{mail(0, 1, 5), mail(2, 1, 6)}
	checkSent(t, list, mail(0, 1, 7))
	checkSent(t, list, mail(0, 1, 8))
	checkSent(t, nil, mail(1, 1, 1))
	checkTook(t, list, 1, 0)
	checkTook(t, list, 1, 0)
	checkMailWords(t, list, 0, 1, 5)
	checkNoMail(t, nil, 1)
	checkMailWords(t, nil, 0, 1)
	list[0] = mail(1, 0, 9)
	checkTook(t, list, 1, 1)
	checkMailWords(t, list, 0, 1)
	checkMailWords(t, list, 1, 0, 9)
	list[1] = mail(2, 1, 10000)
	checkInvalidMails(t, "a change", list)
	list[1] = mail(2, 1, 9999)
	checkSent(t, list, mail(0, 1, 7))
	checkAllWords(t, list)
}
