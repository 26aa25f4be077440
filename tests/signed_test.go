package tests

import (
	"bytes"
	"math"
	"math/rand"
	"slices"
	"strings"
	"testing"

	"loop.example/g00060/impl"
)

func wantedLatest(pages []impl.Page, doc int64) ([]byte, bool) {
	var body []byte
	found := false
	for _, p := range pages {
		if p.Doc == doc && p.Signer != -1 {
			body, found = p.Body, true
		}
	}
	if !isRecord(pages) {
		return nil, false
	}
	return body, found
}

func checkLatest(t *testing.T, what string, pages []impl.Page, doc int64, want string, found bool) {
	t.Helper()
	if got, ok := impl.Latest(pages, doc); string(got) != want || ok != found {
		t.Errorf("%s: Latest(%+v, %d) = %q, %v, want %q, %v", what, pages, doc, got, ok, want, found)
	}
	if told, ok := wantedLatest(pages, doc); string(told) != want || ok != found {
		t.Errorf("%s: the test itself tells %q, %v, want %q, %v", what, told, ok, want, found)
	}
}

func TestLatest(t *testing.T) {
	pages := aRecord()
	checkLatest(t, "the last but one is signed", pages, 5, "two", true)
	checkLatest(t, "the last one is signed", pages, 0, "nought\n", true)
	checkLatest(t, "the only one is signed", pages, 999, "last", true)
	checkLatest(t, "none is signed", pages, 7, "", false)
	checkLatest(t, "no page of the document", pages, 6, "", false)
	checkLatest(t, "no page", nil, 5, "", false)
	checkLatest(t, "an empty Body", pages[:5], 0, "", true)
	checkLatest(t, "an empty Body behind another one", []impl.Page{signedPage(5, 1, "one", 8), signedPage(5, 2, "", 8)}, 5, "", true)
	checkLatest(t, "an empty Body that is not signed", []impl.Page{signedPage(5, 1, "one", 8), openPage(5, 2, "")}, 5, "one", true)
	checkLatest(t, "a Body of MaxBody bytes", []impl.Page{signedPage(5, 1, strings.Repeat("x", 2048), 8)}, 5, strings.Repeat("x", 2048), true)
	for _, doc := range []int64{math.MinInt64, -1, 1000, math.MaxInt64} {
		checkLatest(t, "no document", pages, doc, "", false)
		checkLatest(t, "no document, no page", nil, doc, "", false)
	}
	full := pagesTo(501, 1)
	full[499] = signedPage(0, 500, "the last", 8)
	checkLatest(t, "a full record", full[:500], 0, "the last", true)
	checkLatest(t, "one page too many", full, 0, "", false)
}

func TestLatestOfNoRecord(t *testing.T) {
	for at := range aRecord() {
		pages := aRecord()
		pages[at].Sign++
		for _, doc := range []int64{0, 5, 7, 999} {
			checkLatest(t, "a Sign is wrong", pages, doc, "", false)
		}
		pages = aRecord()
		pages[at].Version++
		checkLatest(t, "a Version is wrong", pages, 5, "", false)
	}
}

// A page of another document, or a draft, changes nothing of what was signed last.
func TestLatestOfManyRecords(t *testing.T) {
	coins := rand.New(rand.NewSource(136))
	answers := map[bool]int{}
	for range 10000 {
		pages := randomRecord(coins, 10)
		if coins.Intn(10) == 0 {
			spoilRecord(coins, pages)
		}
		for doc := int64(-1); doc <= 4; doc++ {
			body, found := wantedLatest(pages, doc)
			if got, ok := impl.Latest(pages, doc); !bytes.Equal(got, body) || ok != found {
				t.Fatalf("Latest(%+v, %d) = %q, %v", pages, doc, got, ok)
			}
			answers[found]++
		}
	}
	if answers[true] < 5000 || answers[false] < 5000 {
		t.Error(answers)
	}
}

func wantedTampered(pages []impl.Page) []int64 {
	var places []int64
	for at, p := range pages {
		if p.Signer != -1 && p.Sign != signFor(p) && len(pages) <= 500 {
			places = append(places, int64(at))
		}
	}
	return places
}

func checkTampered(t *testing.T, what string, pages []impl.Page, want ...int64) {
	t.Helper()
	if got := impl.Tampered(pages); !slices.Equal(got, want) {
		t.Errorf("%s: Tampered(%+v) = %v, want %v", what, pages, got, want)
	}
	if told := wantedTampered(pages); !slices.Equal(told, want) {
		t.Errorf("%s: the test itself tells %v, want %v", what, told, want)
	}
}

func TestTampered(t *testing.T) {
	checkTampered(t, "no page", nil)
	checkTampered(t, "no page, but not nil", []impl.Page{})
	checkTampered(t, "none", aRecord())
	for at, p := range aRecord() {
		pages := aRecord()
		pages[at].Body = append(pages[at].Body, '!')
		if p.Signer == -1 {
			checkTampered(t, "what is not signed may be changed", pages)
		} else {
			checkTampered(t, "one", pages, int64(at))
		}
	}
	pages := aRecord()
	pages[0].Body, pages[2].Sign, pages[5].Signer, pages[6].Version = []byte("One"), 0, 9, 2
	checkTampered(t, "several", pages, 0, 2, 5, 6)
	for at := range pages {
		pages[at].Signer, pages[at].Sign = 8, -1
	}
	checkTampered(t, "all", pages, 0, 1, 2, 3, 4, 5, 6)
}

func TestTamperedWithoutASigner(t *testing.T) {
	for _, sign := range []int64{math.MinInt64, -1, 0, 1, 1000000007, math.MaxInt64} {
		p := openPage(5, 1, "text")
		p.Sign = sign
		checkTampered(t, "no Signer", []impl.Page{p})
		checkTampered(t, "no Signer, beside another one", []impl.Page{p, signedPage(6, 1, "", 8), p, {Doc: 7, Version: 1, Sign: 1}}, 3)
	}
	checkTampered(t, "the Signer was taken out", []impl.Page{{Doc: 5, Version: 1, Signer: -1, Sign: signedPage(5, 1, "", 8).Sign}})
	checkTampered(t, "the zero page: somebody's, and not signed", make([]impl.Page, 2), 0, 1)
}

// Of all that makes a record only the Signs count here.
func TestTamperedOfNoRecord(t *testing.T) {
	wild := []int64{math.MinInt64, -1000, -12, -1, 0, 1, 9, 10, 999, 1000, math.MaxInt64}
	for _, n := range wild {
		for _, p := range []impl.Page{
			{Doc: n, Version: 1, Body: []byte("text"), Signer: 8}, {Doc: 5, Version: n, Body: []byte("text"), Signer: 8}, {Doc: n, Version: n, Signer: 0},
		} {
			other := signedAnew(p)
			other.Sign++
			checkTampered(t, "a Doc or a Version", []impl.Page{signedAnew(p), signedAnew(p), other}, 2)
		}
		// Whoever it is: only -1 is nobody.
		p := impl.Page{Doc: 5, Version: 1, Body: []byte("text"), Signer: n}
		other := signedAnew(p)
		other.Sign--
		if n == -1 {
			checkTampered(t, "nobody", []impl.Page{p, signedAnew(p), other})
		} else {
			checkTampered(t, "a Signer", []impl.Page{signedAnew(p), other}, 1)
		}
	}
	checkTampered(t, "twice one Version", append(versionsOf(1, 1, 5), openPage(5, 2, ""), openPage(5, 3, ""), impl.Page{Doc: 5, Version: 1, Signer: 8}), 5)
	for _, count := range []int{2048, 2049, 99993, 99994, 99995, 100000, 100001, 200000} {
		p := signedPage(5, 1, strings.Repeat("\x07", count), 8)
		other := signedPage(5, 1, strings.Repeat("\x07", count-1)+"\x08", 8)
		checkTampered(t, "long Bodies", []impl.Page{p, other})
		// The Sign is of the first 100000 bytes of all its text, 6 of which stand ahead of the Body.
		if exchanged := p; count > 99994 {
			exchanged.Body = other.Body
			checkTampered(t, "a change behind what counts", []impl.Page{exchanged})
		} else {
			exchanged.Body = other.Body
			checkTampered(t, "a change at the end", []impl.Page{exchanged}, 0)
		}
	}
}

func TestHowManyPagesAreTampered(t *testing.T) {
	for _, count := range []int{499, 500} {
		pages := pagesTo(count, 7)
		checkTampered(t, "none of many", pages)
		pages[0].Sign, pages[count-1].Sign = -1, -1
		checkTampered(t, "the first and the last", pages, 0, int64(count)-1)
		for at := range pages {
			pages[at].Sign = -1
		}
		checkTampered(t, "all of many", pages, numbersTo(int64(count))...)
	}
	for _, count := range []int{501, 502, 2000} {
		pages := pagesTo(count, 7)
		for at := range pages {
			pages[at].Sign = -1
		}
		checkTampered(t, "too many", pages)
	}
}

func TestTamperedOfManyRecords(t *testing.T) {
	coins := rand.New(rand.NewSource(137))
	told := 0
	for range 10000 {
		pages := randomRecord(coins, 12)
		for range coins.Intn(5) {
			spoilRecord(coins, pages)
		}
		got := impl.Tampered(pages)
		if !slices.Equal(got, wantedTampered(pages)) {
			t.Fatalf("Tampered(%+v) = %v", pages, got)
		}
		if impl.RecordOk(pages) && len(got) > 0 {
			t.Fatalf("%+v is a record, but %v are tampered with", pages, got)
		}
		told += len(got)
	}
	if told < 2000 {
		t.Error(told)
	}
}

// checkWriteOnRecord looks at the records ahead of and behind a write, and asks for promise 16 of what came.
func checkWriteOnRecord(t *testing.T, pages []impl.Page, w impl.Write) ([]impl.Page, int64) {
	t.Helper()
	next, code := impl.RecordDo(pages, w)
	if !impl.RecordOk(next) || !isRecord(next) || len(impl.Tampered(next)) > 0 {
		t.Fatalf("%+v became %+v by %+v", pages, next, w)
	}
	if code != 0 && !samePages(next, pages) {
		t.Fatalf("refused with %d, but %+v became %+v", code, pages, next)
	}
	if len(next) < len(pages) || len(next) > len(pages)+1 {
		t.Fatalf("%+v became %+v by %+v", pages, next, w)
	}
	for at, p := range pages {
		if (p.Signer != -1 || p.Doc != w.Doc) && !samePage(p, next[at]) {
			t.Fatalf("%+v became %+v by %+v", p, next[at], w)
		}
	}
	return next, code
}

// Promise 16: signed pages never change, whatever is written. What is signed is booked, and must stand there as it was to the end.
func TestSignedPagesNeverChange(t *testing.T) {
	coins := rand.New(rand.NewSource(138))
	done, all := [4]int{}, 0
	for range 100 {
		pages, booked := []impl.Page{}, map[int]impl.Page{}
		for range 120 {
			w := randomWrite(coins)
			next, code := checkWriteOnRecord(t, pages, w)
			if code == 0 {
				done[w.Kind]++
			}
			if code == 0 && w.Kind == 3 {
				places := placesOf(next, w.Doc)
				last := places[len(places)-1]
				booked[last] = anewPages(next)[last]
			}
			for at, p := range booked {
				if !samePage(next[at], p) {
					t.Fatalf("%+v was signed, and became %+v by %+v", p, next[at], w)
				}
			}
			pages = next
		}
		all += len(booked)
	}
	if slices.Min(done[1:]) < 500 || all < 500 {
		t.Error("too few were done:", done, all)
	}
}

// Promise 16, where a signed page is asked for by each write, as the last page of its document and ahead of the last.
func TestNoWriteReachesASignedPage(t *testing.T) {
	last := []impl.Page{signedPage(5, 1, "one", 8), signedPage(5, 2, "two", 9)}
	ahead := append(anewPages(last), openPage(5, 3, "three"))
	for _, pages := range [][]impl.Page{last, ahead} {
		for kind := int64(0); kind <= 4; kind++ {
			for doc := int64(4); doc <= 6; doc++ {
				for _, signer := range []int64{-1, 0, 8, 9, 1000} {
					for _, body := range []string{"", "one", "two", "x"} {
						w := impl.Write{Kind: kind, Doc: doc, Body: []byte(body), Signer: signer}
						if next, _ := checkWriteOnRecord(t, pages, w); !samePages(next[:2], last) {
							t.Fatalf("%+v became %+v by %+v", pages, next, w)
						}
					}
				}
			}
		}
	}
}

// A full record that is made by writes alone, page by page.
func TestAFullRecordIsWritten(t *testing.T) {
	pages := []impl.Page{}
	for at := range int64(500) {
		doc := at * 37 % 11
		for _, w := range []impl.Write{newOf(doc, "draft"), editOf(doc, strings.Repeat("p", int(at))), signBy(doc, at)} {
			next, code := impl.RecordDo(pages, w)
			if code != 0 {
				t.Fatal(at, code)
			}
			pages = next
		}
	}
	if !impl.RecordOk(pages) || !isRecord(pages) || len(pages) != 500 || len(impl.Tampered(pages)) > 0 {
		t.Fatal(len(pages))
	}
	if body, ok := impl.Latest(pages, 499*37%11); !ok || len(body) != 499 {
		t.Fatal(len(body), ok)
	}
	checkWriteCode(t, "one more", pages, newOf(11, ""), 6)
}

// recordWithRoom is a record with spare room behind its lists, and a look at all of it.
func recordWithRoom(pages []impl.Page) ([]impl.Page, func() []impl.Page) {
	room := append(anewPages(pages), openPage(777, 7, "room"), openPage(888, 8, "behind"))
	for at := range room {
		room[at].Body = append(slices.Clone(room[at].Body), "??"...)[:len(room[at].Body)]
	}
	return room[:len(pages)], func() []impl.Page {
		all := slices.Clone(room)
		for at := range all {
			all[at].Body = slices.Clone(room[at].Body[:len(room[at].Body)+2])
		}
		return all
	}
}

// spoilPages writes into all that an answer has, and into the room behind it.
func spoilPages(pages []impl.Page) {
	for _, p := range pages {
		clear(p.Body[:cap(p.Body)])
	}
	pages = pages[:cap(pages)]
	for at := range pages {
		pages[at] = impl.Page{Doc: -9}
	}
}

func TestRecordsStayAndAnswersAreNewMemory(t *testing.T) {
	wrong := aRecord()
	wrong[6].Sign = -1
	for _, record := range [][]impl.Page{aRecord(), wrong, nil, aRecord()[:1], aRecord()[:0]} {
		for kind := int64(0); kind <= 4; kind++ {
			for _, doc := range []int64{-1, 0, 3, 5, 7, 999} {
				pages, look := recordWithRoom(record)
				body := []byte("body and room")
				w, before := impl.Write{Kind: kind, Doc: doc, Body: body[:4], Signer: 8}, look()
				impl.RecordOk(pages)
				got, _ := impl.RecordDo(pages, w)
				kept := anewPages(got)
				other, _ := impl.RecordDo(pages, w)
				spoilPages(other)
				latest, _ := impl.Latest(pages, doc)
				keptLatest := slices.Clone(latest)
				again, _ := impl.Latest(pages, doc)
				clear(again[:cap(again)])
				places := impl.Tampered(pages)
				keptPlaces := slices.Clone(places)
				more := impl.Tampered(pages)
				clear(more[:cap(more)])
				if !samePages(look(), before) || string(body) != "body and room" {
					t.Fatalf("write %d of %d: an argument was written into, or shares memory with an answer", kind, doc)
				}
				if !samePages(got, kept) || !bytes.Equal(latest, keptLatest) || !slices.Equal(places, keptPlaces) {
					t.Fatalf("write %d of %d: two answers share memory", kind, doc)
				}
			}
		}
	}
}

// The Bodies of one answer have each its own memory, and room, even where those of the argument do not.
func TestBodiesOfAnAnswerAreApart(t *testing.T) {
	shared := []byte("abc")
	pages := []impl.Page{{Doc: 1, Version: 1, Body: shared[:1], Signer: -1}, {Doc: 2, Version: 1, Body: shared[:2], Signer: -1}, {Doc: 3, Version: 1, Body: shared, Signer: -1}}
	for _, w := range []impl.Write{
		{Kind: 1, Doc: 4, Body: shared}, {Kind: 2, Doc: 2, Body: shared}, {Kind: 3, Doc: 2, Signer: 8}, {Kind: 1, Doc: 1, Body: shared}, {Kind: 2, Doc: 9, Body: shared}, {},
	} {
		next, _ := impl.RecordDo(pages, w)
		for at := range next {
			kept := anewPages(next)
			one := append(next[at].Body, '!')
			one[0] = '?'
			next[at].Body, kept[at].Body = one, one
			if !samePages(next, kept) || string(shared) != "abc" {
				t.Fatalf("%+v: Bodies of one answer share memory", w)
			}
		}
	}
}

// Calls that run side by side have nothing in common.
func TestRecordsSideBySide(t *testing.T) {
	pages, answers := pagesTo(200, 9), make(chan bool)
	pages[150].Sign = -1
	for range 20 {
		go func() {
			ok := !impl.RecordOk(pages) && impl.RecordOk(pages[:150]) && slices.Equal(impl.Tampered(pages), []int64{150})
			next, code := impl.RecordDo(pages[:150], newOf(9, "new"))
			answers <- ok && code == 0 && len(next) == 151
		}()
	}
	for range 20 {
		if !<-answers {
			t.Error("an answer is another one side by side")
		}
	}
}
