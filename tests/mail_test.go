package tests

import (
	"slices"
	"testing"

	"loop.example/exopager/impl"
)

func TestConstantOfMessages(t *testing.T) {
	if impl.MailMax != 8 {
		t.Errorf("%d messages wait", impl.MailMax)
	}
}

// P95, P97, P101, P102: every message that there is, alone: sent, read and taken again.
func TestEachMessage(t *testing.T) {
	for from := range 3 {
		for to := range 3 {
			for word := range 10000 {
				m := mail(from, to, word)
				list := checkSent(t, nil, m)
				checkMails(t, list, true)
				checkMailWords(t, list, from, to, word)
				checkTook(t, list, to, 0)
				checkNoMail(t, list, (to+1)%3)
			}
			checkAllWords(t, []impl.Mail{mail(from, to, 9999)})
		}
	}
}

// P95: messages are sent behind those that wait, whatever these are.
func TestWrittenSends(t *testing.T) {
	list := checkSent(t, nil, mail(0, 1, 7))
	list = checkSent(t, list, mail(2, 1, 8))
	list = checkSent(t, list, mail(0, 1, 7))
	list = checkSent(t, list, mail(0, 0, 9999))
	list = checkSent(t, list, mail(0, 1, 0))
	want := []impl.Mail{mail(0, 1, 7), mail(2, 1, 8), mail(0, 1, 7), mail(0, 0, 9999), mail(0, 1, 0)}
	if !slices.Equal(list, want) {
		t.Errorf("the messages are %v, not %v", list, want)
	}
	checkMailWords(t, list, 0, 1, 7, 7, 0)
	checkMailWords(t, list, 2, 1, 8)
	checkMailWords(t, list, 0, 0, 9999)
	checkMailWords(t, list, 1, 0)
	checkSent(t, []impl.Mail{}, mail(2, 2, 9999))
	checkSent(t, []impl.Mail{{}}, impl.Mail{})
}

// P95, P96: each valid message, behind all that may wait: it is read as the last one from its sender to its receiver, and nothing else changes.
func TestSendToAll(t *testing.T) {
	for i, list := range validMails() {
		further := furtherMails()
		if len(list) > 2 {
			further = further[i%4 : i%4+12]
		}
		for _, m := range further {
			if len(list) == 8 {
				checkFull(t, list, m)
				continue
			}
			got := checkSent(t, list, m)
			checkMails(t, got, true)
			for from := range 3 {
				for to := range 3 {
					want := sentWords(list, from, to)
					if from == m.From && to == m.To {
						want = append(want, m.Word)
					}
					checkMailWords(t, got, from, to, want...)
				}
			}
		}
	}
}

// P96: with seven messages there is room for one, and with eight there is none, also for one that is there already.
func TestSendIntoTheLastRoom(t *testing.T) {
	for _, list := range slices.Concat(writtenMails(), longMails()) {
		if len(list) != 8 {
			continue
		}
		for _, m := range append(furtherMails(), list...) {
			full := checkSent(t, list[:7], m)
			checkMails(t, full, true)
			checkFull(t, full, m)
			checkFull(t, full, impl.Mail{})
			checkFull(t, list, m)
		}
	}
}

// P95, P96: from no messages to as many as may wait; then there is room again only when one is taken.
func TestSendUntilFull(t *testing.T) {
	for number := range 200 {
		next := series(number)
		list, want := []impl.Mail(nil), []impl.Mail{}
		for range 8 {
			m := mail(next(3), next(3), next(10000))
			list = checkSent(t, list, m)
			want = append(want, m)
		}
		if !slices.Equal(list, want) {
			t.Fatalf("the messages are %v, not %v", list, want)
		}
		m := mail(next(3), next(3), next(10000))
		checkFull(t, list, m)
		less := checkTook(t, list, list[number%8].To, firstTo(list, list[number%8].To))
		again := checkSent(t, less, m)
		checkFull(t, again, m)
		checkAllWords(t, again)
	}
}

// P97: the message is the first one, the last one and one between them.
func TestTakeAtEachPlace(t *testing.T) {
	list := []impl.Mail{mail(0, 1, 5), mail(1, 2, 5), mail(2, 1, 6), mail(2, 0, 7), mail(1, 2, 8), mail(0, 1, 5)}
	checkTook(t, list, 1, 0)
	checkTook(t, list, 2, 1)
	checkTook(t, list, 0, 3)
	for length := 1; length <= 8; length++ {
		for at := range length {
			for env := range 3 {
				others := slices.Repeat([]impl.Mail{mail(env, (env+1)%3, 5), mail(env, (env+2)%3, 6)}, 4)[:length]
				for from := range 3 {
					list := slices.Clone(others)
					list[at] = mail(from, env, 7)
					checkTook(t, list, env, at)
				}
				checkNoMail(t, others, env)
			}
		}
	}
}

// P97: of two messages to an environment, at any two places, the first one is taken: from the same sender, from different ones, and if they are the same.
func TestTakeTheFirstOfTwo(t *testing.T) {
	for env := range 3 {
		others := slices.Repeat([]impl.Mail{mail(env, (env+1)%3, 5), mail((env+2)%3, (env+2)%3, 6)}, 4)
		for one := range 8 {
			for two := one + 1; two < 8; two++ {
				for senders := range 9 {
					for _, word := range []int{0, 9999} {
						list := slices.Clone(others)
						list[one], list[two] = mail(senders/3, env, word), mail(senders%3, env, 9999)
						less := checkTook(t, list, env, one)
						none := checkTook(t, less, env, two-1)
						checkNoMail(t, none, env)
					}
				}
			}
		}
	}
}

// P97, P98: each environment, of all messages that may wait; the message is the first one to it, and the others stay in order.
func TestTakeFromAll(t *testing.T) {
	took, none := 0, 0
	for _, list := range validMails() {
		for env := range 3 {
			checkTake(t, list, env)
			got, m, ok := impl.MailTake(list, env)
			checkMails(t, got, true)
			if ok != slices.ContainsFunc(list, func(x impl.Mail) bool { return x.To == env }) || ok && m.To != env {
				t.Errorf("of %v, MailTake for %d returns %v, %t", list, env, m, ok)
			}
			if ok {
				took++
			} else {
				none++
			}
		}
	}
	if took < 1000 || none < 1000 {
		t.Errorf("a message was taken %d times, and none %d times", took, none)
	}
}

// P98: an environment that has only sent messages has got none, and nothing of what it sent is taken.
func TestTakeOfASender(t *testing.T) {
	for env := range 3 {
		for length := range 9 {
			list := []impl.Mail{}
			for i := range length {
				list = append(list, mail(env, (env+1+i%2)%3, 100*i))
			}
			checkNoMail(t, list, env)
			if length > 1 {
				checkTook(t, list, (env+1)%3, 0)
				checkTook(t, list, (env+2)%3, 1)
			}
		}
	}
	checkNoMail(t, nil, 0)
	checkNoMail(t, []impl.Mail{}, 2)
}

// P99, P100: what MailWords tells from each environment to each one is as before, but for the word that was taken, which was the first one.
func TestWordsAfterTake(t *testing.T) {
	for _, list := range validMails() {
		for env := range 3 {
			got, m, ok := impl.MailTake(list, env)
			for from := range 3 {
				for to := range 3 {
					before, after := impl.MailWords(list, from, to), impl.MailWords(got, from, to)
					if ok && from == m.From && to == env {
						after = append([]int{m.Word}, after...)
					}
					if !slices.Equal(before, after) {
						t.Errorf("of %v, MailTake for %d of %v changes the words from %d to %d", list, env, m, from, to)
					}
				}
			}
		}
	}
}

// P97, P98: an environment takes until there is none: it gets all that was sent to it, in order, and so those of each sender; the messages to others stay in order.
func TestTakeUntilNone(t *testing.T) {
	for _, start := range validMails() {
		for env := range 3 {
			list, got := start, []impl.Mail{}
			for firstTo(list, env) >= 0 && len(got) < 9 {
				next, m, _ := impl.MailTake(list, env)
				list, got = next, append(got, m)
			}
			checkNoMail(t, list, env)
			mine := func(m impl.Mail) bool { return m.To == env }
			others := slices.DeleteFunc(slices.Clone(start), mine)
			own := slices.DeleteFunc(slices.Clone(start), func(m impl.Mail) bool { return !mine(m) })
			if !slices.Equal(got, own) || !slices.Equal(list, others) {
				t.Errorf("of %v, environment %d takes %v and leaves %v", start, env, got, list)
			}
			for from := range 3 {
				if !slices.Equal(sentWords(got, from, env), sentWords(start, from, env)) {
					t.Errorf("of %v, environment %d takes %v", start, env, got)
				}
			}
		}
	}
}

// P97: all environments take in turn, until no message is left.
func TestTakeInTurn(t *testing.T) {
	list := []impl.Mail{mail(0, 1, 1), mail(1, 2, 2), mail(2, 1, 3), mail(0, 2, 4), mail(2, 1, 5), mail(1, 0, 6), mail(0, 0, 7), mail(1, 1, 8)}
	turns := []struct{ env, from, word int }{{1, 0, 1}, {0, 1, 6}, {2, 1, 2}, {1, 2, 3}, {0, 0, 7}, {2, 0, 4}, {1, 2, 5}, {1, 1, 8}}
	for _, x := range turns {
		got, m, ok := impl.MailTake(list, x.env)
		if !ok || m != mail(x.from, x.env, x.word) {
			t.Errorf("of %v, MailTake for %d returns %v, %t", list, x.env, m, ok)
		}
		list = got
	}
	if len(list) != 0 {
		t.Errorf("%v is left", list)
	}
	for env := range 3 {
		checkNoMail(t, list, env)
	}
}

// P97, P98, P101: messages to oneself are sent, counted and taken as all others, among those of the same environment to others, and of others to it.
func TestMessagesToOneself(t *testing.T) {
	for env := range 3 {
		other, third := (env+1)%3, (env+2)%3
		list := []impl.Mail{mail(env, other, 1), mail(env, env, 2), mail(other, env, 3), mail(other, other, 4), mail(env, env, 5), mail(third, env, 6), mail(env, third, 7)}
		checkMails(t, list, true)
		checkMailWords(t, list, env, env, 2, 5)
		checkMailWords(t, list, other, other, 4)
		checkMailWords(t, list, third, third)
		checkMailWords(t, list, env, other, 1)
		checkMailWords(t, list, other, env, 3)
		full := checkSent(t, list, mail(env, env, 9999))
		checkMailWords(t, full, env, env, 2, 5, 9999)
		checkFull(t, full, mail(env, env, 0))
		for _, at := range []int{1, 1, 2, 2, 3} {
			full = checkTook(t, full, env, at)
		}
		checkNoMail(t, full, env)
		checkMailWords(t, full, env, env)
		checkMailWords(t, full, other, other, 4)
		checkMailWords(t, full, env, other, 1)
		checkMailWords(t, full, env, third, 7)
	}
}

// P101: words that are written out, for each pair of environments.
func TestWrittenWords(t *testing.T) {
	list := []impl.Mail{mail(0, 1, 9), mail(0, 2, 8), mail(0, 1, 0), mail(1, 0, 7), mail(0, 1, 9999), mail(1, 1, 6), mail(2, 1, 9), mail(0, 1, 9)}
	want := [3][3][]int{{nil, {9, 0, 9999, 9}, {8}}, {{7}, {6}, nil}, {nil, {9}, nil}}
	for from := range 3 {
		for to := range 3 {
			checkMailWords(t, list, from, to, want[from][to]...)
			checkMailWords(t, nil, from, to)
			checkMailWords(t, []impl.Mail{}, from, to)
		}
	}
	for from := range 3 {
		for to := range 3 {
			checkMailWords(t, slices.Repeat([]impl.Mail{mail(from, to, 9999)}, 8), from, to, slices.Repeat([]int{9999}, 8)...)
		}
	}
}

// P101: the words of all messages, each pair of environments, and environments that do not exist.
func TestWordsOfAll(t *testing.T) {
	for _, list := range validMails() {
		checkAllWords(t, list)
	}
}

// P102: without any one message, and with one that has no receiver, in place of each one and in front of and behind each one.
func TestMailsWithoutOneAndWithOneToNobody(t *testing.T) {
	for _, list := range validMails() {
		checkMails(t, list, true)
		for at, m := range list {
			checkMails(t, withoutMail(list, at), true)
			for _, env := range []int{-1, 3} {
				bad := slices.Clone(list)
				bad[at].To = env
				checkMails(t, bad, false)
				checkMails(t, slices.Insert(slices.Clone(list), at, mail(m.From, env, m.Word)), false)
			}
		}
		for _, env := range []int{-1, 3} {
			checkMails(t, append(slices.Clone(list), mail(0, env, 0)), false)
		}
	}
}

// P95 to P101: sends and takes in any order, with the messages held against a list that is kept beside them, until all room is used and until none is left, again and again.
func TestSendAndTakeInAnyOrder(t *testing.T) {
	full, empty := 0, 0
	for number := range 60 {
		next := series(number * 31)
		list, want := []impl.Mail{}, []impl.Mail{}
		for turn := range 200 {
			if next(10) < 3+turn/20%2*4 {
				env := next(3)
				at := firstTo(want, env)
				checkTake(t, list, env)
				list, _, _ = impl.MailTake(list, env)
				if at >= 0 {
					want = withoutMail(want, at)
				}
			} else {
				m := mail(next(3), next(3), next(10000))
				list, _ = impl.MailSend(list, m)
				if len(want) < 8 {
					want = append(want, m)
				} else {
					full++
				}
			}
			if !slices.Equal(list, want) {
				t.Fatalf("the messages are %v, not %v", list, want)
			}
			if len(want) == 0 {
				empty++
			}
			checkAllWords(t, list)
		}
	}
	if full < 100 || empty < 100 {
		t.Errorf("there was no room %d times, and no message %d times", full, empty)
	}
}
