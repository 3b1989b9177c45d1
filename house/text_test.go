package house_test

import (
	"strings"
	"testing"

	"acrospire/api"
	"acrospire/house"
)

// P11.7
func TestSay(t *testing.T) {
	x := begin(t)
	for _, pair := range [][2]string{
		{"receive 50", "lot 0\n"}, {"receive 0", "error 2\n"}, {"put 9 k v", "error 80\n"}, {"tick 1", "lost\n"}, {"nothing", "error 4\n"}, {"", "error 4\n"},
		{"charge 0 0 20", "lot 1\n"}, {"charge 0 0 20", "error 111\n"}, {"cook 0 9 emit 1/0", "error 101\n"}, {"save", "saved 3\n"}, {"crash", "recovered 3\n"},
	} {
		if got := x.Say(pair[0]); got != pair[1] {
			t.Errorf("Say(%q) = %q, want %q", pair[0], got, pair[1])
		}
	}
}

// P11.7
func TestDoAnswers(t *testing.T) {
	x := begin(t)
	for _, pair := range [][2]string{
		{"receive 50", "lot 0"}, {"charge 1 0 20", "lot 1"}, {"steep 1 7", "rest 0"}, {"tick 1", "lost 0"}, {"read 1", "spread 6"}, {"cook 1 1 #", "done 0"}, {"turn 1", "ok"},
		{"save", "saved 7"}, {"crash 5", "recovered 7"},
	} {
		if got, e := x.Do(pair[0]); got != pair[1] || e != api.OK {
			t.Errorf("Do(%q) = %q, %d, want %q", pair[0], got, e, pair[1])
		}
	}
}

// P11.7
func TestText(t *testing.T) {
	h := plant(3, 2, 100)
	h.Levels = 3
	x := mustNew(t, h)
	mustSay(t, x, "receive 50", "lot 0", "charge 2 0 20", "lot 1", "charge 0 1 5", "lot 2", "ship 1 3", "ok", "discard 1 4", "ok", "steep 2 5", "rest 0",
		"read 2", "spread 5", "read 0", "spread 0", "tick 12", "lost 0 0", "put 1 k x", "ok", "put 2 k y", "ok", "put 2 a ~!", "ok", "send 1 2", "ok", "deliver 0", "ok",
		"send 2 0", "ok", "send 0 0", "ok", "send 1 2", "ok")
	mustHaveText(t, x, "time 12", "lot 0 50 30 0 0", "lot 1 20 8 3 4", "lot 2 5 5 0 0", "bed 0 2 0 0", "bed 1 empty", "bed 2 1 4 1", "node 8 3", "node 13 1",
		"site 0 0 0 0 0 0 0 0 0", "site 1 0 1 0 0 0 0 0 0", "entry k x 1 1", "site 2 0 1 2 0 0 0 0 0", "entry a ~! 2 2", "entry k x 1 1", "entry k y 2 1",
		"letter 2 0", "letter 0 0", "letter 1 2")
	mustSay(t, x, "crash", "recovered 0", "remove 0 k", "ok")
	mustHaveText(t, x, "time 0", "bed 0 empty", "bed 1 empty", "bed 2 empty", "site 0 0 0 0 0 0 0 0 0", "site 1 0 0 0 0 0 0 0 0", "site 2 0 0 0 0 0 0 0 0")
}

// P11.7
func TestTextOfTheGreatestHouse(t *testing.T) {
	h := api.House{Beds: 8, Cells: 64, Full: 1 << 20, Grain: api.Grain{Num: 1, Den: 2}, Levels: 20, Factor: 1000, Sites: 8, Pages: 16384}
	x := mustNew(t, h)
	mustSay(t, x, "receive 1099511627776", "lot 0", "charge 7 0 1099511627776", "lot 1", "steep 7 67108865", "rest 1", "read 7", "spread 0", "put 7 k v", "ok")
	text := x.Text()
	for _, line := range []string{
		"lot 1 1099511627776 1099511627776 0 0", "bed 7 1" + strings.Repeat(" 1048576", 64), "node 2097151 64", "site 7 0 0 0 0 0 0 0 1", "entry k v 7 1",
	} {
		if strings.Count(text, "\n"+line+"\n") != 1 {
			t.Errorf("%q is not once in\n%s", line, text)
		}
	}
	if got := strings.Count(text, "\n"); got != 1+2+8+1+8+1 {
		t.Errorf("%d lines", got)
	}
}

// P11.7
func TestPlay(t *testing.T) {
	for text, want := range map[string]string{
		"":                                 "",
		"\n":                               "",
		"\n\n\n":                           "",
		"receive 5":                        "lot 0\n",
		"receive 5\n":                      "lot 0\n",
		"\n\nreceive 5\n\n\nreceive 6\n\n": "lot 0\nlot 1\n",
		"receive 5\r\nreceive 6":           "error 4\nlot 0\n",
		" \nreceive 0\nsave\ncrash 1":      "error 4\nerror 2\nsaved 0\nrecovered 0\n",
		"receive 5\n\nblend 0 2 0 1\nship 1 3\nship 1 1":                                            "lot 0\nlot 1\nok\nerror 50\n",
		"receive 9\ncharge 0 0 9\nsteep 0 5\ncook 0 9 emit 3;emit 0\ncook 0 9 emit 3\nemit 0\nsave": "lot 0\nlot 1\nrest 0\ndone 1\nerror 2\nerror 4\nsaved 4\n",
		strings.Repeat("tick 1\n", 7):                                                               strings.Repeat("lost\n", 6) + "error 5\n",
		strings.Repeat("x", 100) + "\nsave":                                                         "error 4\nsaved 0\n",
	} {
		if got, e := house.Play(plant(1, 2, 6), text); got != want || e != api.OK {
			t.Errorf("Play(%q) = %q, %d, want %q", text, got, e, want)
		}
	}
	if got, e := house.Play(api.House{}, "receive 5"); got != "" || e != api.ErrConfig {
		t.Errorf("Play without a house = %q, %d", got, e)
	}
}
