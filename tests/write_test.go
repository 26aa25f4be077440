package tests

import (
	"bytes"
	"math"
	"math/rand"
	"slices"
	"strings"
	"testing"

	"loop.example/g00060/impl"
)

func newOf(doc int64, body string) impl.Write {
	return impl.Write{Kind: 1, Doc: doc, Body: []byte(body)}
}

func editOf(doc int64, body string) impl.Write {
	return impl.Write{Kind: 2, Doc: doc, Body: []byte(body)}
}

func signBy(doc, signer int64) impl.Write { return impl.Write{Kind: 3, Doc: doc, Signer: signer} }

// placesOf tells the places of a document's pages.
func placesOf(pages []impl.Page, doc int64) []int {
	var places []int
	for at, p := range pages {
		if p.Doc == doc {
			places = append(places, at)
		}
	}
	return places
}

// wantedWriteCodes tells all codes that apply; the least of them is named first.
func wantedWriteCodes(pages []impl.Page, w impl.Write) []int64 {
	var codes []int64
	add := func(code int64, applies bool) {
		if applies {
			codes = append(codes, code)
		}
	}
	usesBody, usesSigner := w.Kind == 1 || w.Kind == 2, w.Kind == 3
	places := placesOf(pages, w.Doc)
	signed := len(places) > 0 && pages[places[len(places)-1]].Signer != -1
	add(1, !isRecord(pages))
	add(2, !within(w.Kind, 1, 3) || !within(w.Doc, 0, 999) || usesBody && len(w.Body) > 2048 || usesSigner && !within(w.Signer, 0, 999))
	add(3, (w.Kind == 2 || w.Kind == 3) && len(places) == 0)
	add(4, (w.Kind == 2 || w.Kind == 3) && signed)
	add(5, w.Kind == 1 && len(places) > 0 && !signed)
	add(6, w.Kind == 1 && len(pages) >= 500)
	return codes
}

func wantedWrite(pages []impl.Page, w impl.Write) ([]impl.Page, int64) {
	if codes := wantedWriteCodes(pages, w); len(codes) > 0 {
		if codes[0] == 1 {
			return nil, 1
		}
		return pages, codes[0]
	}
	next, places := anewPages(pages), placesOf(pages, w.Doc)
	if w.Kind == 1 {
		return append(next, openPage(w.Doc, int64(len(places))+1, string(w.Body))), 0
	}
	last := &next[places[len(places)-1]]
	if w.Kind == 2 {
		last.Body = slices.Clone(w.Body)
	} else {
		last.Signer = w.Signer
		last.Sign = signFor(*last)
	}
	return next, 0
}

// checkWrite holds RecordDo against the oracle.
func checkWrite(t *testing.T, what string, pages []impl.Page, w impl.Write) ([]impl.Page, int64) {
	t.Helper()
	want, wantCode := wantedWrite(pages, w)
	got, code := impl.RecordDo(pages, w)
	if code != wantCode || !samePages(got, want) {
		t.Fatalf("%s: RecordDo(%+v, %+v) = %+v, %d, want %+v, %d", what, pages, w, got, code, want, wantCode)
	}
	return got, code
}

func checkWriteCode(t *testing.T, what string, pages []impl.Page, w impl.Write, code int64) []impl.Page {
	t.Helper()
	next, got := checkWrite(t, what, pages, w)
	if got != code {
		t.Errorf("%s: %+v: %d, want %d", what, w, got, code)
	}
	if code > 1 && !samePages(next, pages) {
		t.Errorf("%s: refused with %d, but it became %+v", what, code, next)
	}
	return next
}

func TestADocumentFromDraftToSigning(t *testing.T) {
	pages := []impl.Page{signedPage(6, 1, "other", 3)}
	for _, step := range []struct {
		w     impl.Write
		code  int64
		pages []impl.Page
	}{
		{editOf(5, "x"), 3, nil}, {signBy(5, 8), 3, nil},
		{newOf(5, "one"), 0, []impl.Page{openPage(5, 1, "one")}},
		{newOf(5, "x"), 5, []impl.Page{openPage(5, 1, "one")}},
		{editOf(5, "two"), 0, []impl.Page{openPage(5, 1, "two")}},
		{editOf(5, ""), 0, []impl.Page{openPage(5, 1, "")}},
		{editOf(5, "three"), 0, []impl.Page{openPage(5, 1, "three")}},
		{signBy(5, 8), 0, []impl.Page{signedPage(5, 1, "three", 8)}},
		{signBy(5, 8), 4, []impl.Page{signedPage(5, 1, "three", 8)}},
		{signBy(5, 9), 4, []impl.Page{signedPage(5, 1, "three", 8)}},
		{editOf(5, "three"), 4, []impl.Page{signedPage(5, 1, "three", 8)}},
		{newOf(5, "four"), 0, []impl.Page{signedPage(5, 1, "three", 8), openPage(5, 2, "four")}},
		{newOf(5, "x"), 5, []impl.Page{signedPage(5, 1, "three", 8), openPage(5, 2, "four")}},
		{editOf(5, "five"), 0, []impl.Page{signedPage(5, 1, "three", 8), openPage(5, 2, "five")}},
		{signBy(5, 0), 0, []impl.Page{signedPage(5, 1, "three", 8), signedPage(5, 2, "five", 0)}},
		{newOf(5, ""), 0, []impl.Page{signedPage(5, 1, "three", 8), signedPage(5, 2, "five", 0), openPage(5, 3, "")}},
		{signBy(5, 999), 0, []impl.Page{signedPage(5, 1, "three", 8), signedPage(5, 2, "five", 0), signedPage(5, 3, "", 999)}},
	} {
		next, code := impl.RecordDo(pages, step.w)
		if code != step.code || !samePages(next, append([]impl.Page{signedPage(6, 1, "other", 3)}, step.pages...)) {
			t.Fatalf("%+v: %+v, %d", step.w, next, code)
		}
		pages = next
	}
}

// Each Kind on a document that has no page, whose last page is signed, and whose last page is not.
func TestEachKindOfWrite(t *testing.T) {
	none := []impl.Page{signedPage(6, 1, "other", 3), openPage(7, 1, "open")}
	signed := append(anewPages(none), signedPage(5, 1, "first", 8), signedPage(5, 2, "second", 8), signedPage(6, 2, "behind", 3))
	open := append(anewPages(none), signedPage(5, 1, "first", 8), openPage(5, 2, "second"), signedPage(6, 2, "behind", 3))
	one := append(anewPages(none), openPage(5, 1, "only"), signedPage(6, 2, "behind", 3))
	for _, r := range []struct {
		what  string
		pages []impl.Page
		w     impl.Write
		code  int64
		at    int
		page  impl.Page
	}{
		{"new of none", none, newOf(5, "new"), 0, 2, openPage(5, 1, "new")},
		{"new behind signed", signed, newOf(5, "new"), 0, 5, openPage(5, 3, "new")},
		{"new behind open", open, newOf(5, "new"), 5, 3, openPage(5, 2, "second")},
		{"new behind the only one, open", one, newOf(5, "new"), 5, 2, openPage(5, 1, "only")},
		{"edit of none", none, editOf(5, "new"), 3, 1, openPage(7, 1, "open")},
		{"edit of signed", signed, editOf(5, "new"), 4, 3, signedPage(5, 2, "second", 8)},
		{"edit of open", open, editOf(5, "new"), 0, 3, openPage(5, 2, "new")},
		{"edit of the only one", one, editOf(5, "new"), 0, 2, openPage(5, 1, "new")},
		{"sign of none", none, signBy(5, 9), 3, 1, openPage(7, 1, "open")},
		{"sign of signed", signed, signBy(5, 9), 4, 3, signedPage(5, 2, "second", 8)},
		{"sign of open", open, signBy(5, 9), 0, 3, signedPage(5, 2, "second", 9)},
		{"sign of the only one", one, signBy(5, 9), 0, 2, signedPage(5, 1, "only", 9)},
	} {
		next := checkWriteCode(t, r.what, r.pages, r.w, r.code)
		if !samePage(next[r.at], r.page) {
			t.Errorf("%s: %+v, want %+v", r.what, next[r.at], r.page)
		}
		others := slices.Delete(anewPages(next), r.at, r.at+1)
		before := anewPages(r.pages)
		if r.at < len(before) {
			before = slices.Delete(before, r.at, r.at+1)
		}
		if !samePages(others, before) {
			t.Errorf("%s: another page was changed: %+v", r.what, next)
		}
	}
}

func TestWritesOfNoRecord(t *testing.T) {
	for doc := int64(-1); doc <= 1000; doc += 1001 {
		for kind := int64(0); kind <= 4; kind++ {
			checkWrite(t, "no page", nil, impl.Write{Kind: kind, Doc: doc, Signer: 8})
		}
	}
	if next := checkWriteCode(t, "the first page of all", nil, newOf(0, ""), 0); len(next) != 1 || !samePage(next[0], openPage(0, 1, "")) {
		t.Fatal(next)
	}
}

func TestKindsOfWrites(t *testing.T) {
	for _, kind := range []int64{math.MinInt64, -1, 0, 4, 5, math.MaxInt64} {
		for _, doc := range []int64{-1, 0, 3, 5, 7, 999, 1000} {
			checkWriteCode(t, "no kind", aRecord(), impl.Write{Kind: kind, Doc: doc, Body: []byte("new"), Signer: 8}, 2)
			checkWriteCode(t, "no kind, no page", nil, impl.Write{Kind: kind, Doc: doc, Body: []byte("new"), Signer: 8}, 2)
		}
	}
	checkWriteCode(t, "the zero write", aRecord(), impl.Write{}, 2)
}

func TestDocumentsOfWrites(t *testing.T) {
	for _, doc := range []int64{math.MinInt64, -1000, -1, 1000, 1001, math.MaxInt64} {
		for kind := int64(1); kind <= 3; kind++ {
			checkWriteCode(t, "no document", aRecord(), impl.Write{Kind: kind, Doc: doc, Body: []byte("new"), Signer: 8}, 2)
			checkWriteCode(t, "no document, no page", nil, impl.Write{Kind: kind, Doc: doc, Body: []byte("new"), Signer: 8}, 2)
		}
	}
	for _, doc := range []int64{0, 1, 500, 998, 999} {
		pages := checkWriteCode(t, "new", []impl.Page{signedPage(77, 1, "", 8)}, newOf(doc, "new"), 0)
		pages = checkWriteCode(t, "edit", pages, editOf(doc, "other"), 0)
		pages = checkWriteCode(t, "sign", pages, signBy(doc, 8), 0)
		if !samePage(pages[1], signedPage(doc, 1, "other", 8)) {
			t.Errorf("%+v", pages)
		}
	}
}

func TestBodiesOfWrites(t *testing.T) {
	open, signed := []impl.Page{openPage(5, 1, "open")}, []impl.Page{signedPage(5, 1, "signed", 8)}
	for _, count := range []int{0, 1, 2047, 2048, 2049, 2050, 100001} {
		code, body := int64(0), strings.Repeat("\xfe", count)
		if count > 2048 {
			code = 2
		}
		checkWriteCode(t, "new of none", nil, newOf(5, body), code)
		checkWriteCode(t, "new behind signed", signed, newOf(5, body), code)
		next := checkWriteCode(t, "edit", open, editOf(5, body), code)
		if code == 0 {
			next = checkWriteCode(t, "sign what was edited", next, signBy(5, 9), 0)
		}
		if code == 0 && !samePage(next[0], signedPage(5, 1, body, 9)) {
			t.Errorf("%d bytes: %+v", count, next[0])
		}
		w := signBy(5, 9)
		w.Body = []byte(body)
		if next := checkWriteCode(t, "sign does not use a Body", open, w, 0); !samePage(next[0], signedPage(5, 1, "open", 9)) {
			t.Errorf("%d bytes: %+v", count, next[0])
		}
	}
	checkWriteCode(t, "a Body that is nil", nil, impl.Write{Kind: 1, Doc: 5}, 0)
	checkWriteCode(t, "a Body that becomes nil", open, impl.Write{Kind: 2, Doc: 5}, 0)
}

func TestSignersOfWrites(t *testing.T) {
	open := []impl.Page{openPage(5, 1, "open")}
	for _, signer := range []int64{math.MinInt64, -2, -1, 0, 1, 500, 998, 999, 1000, math.MaxInt64} {
		code := int64(2)
		if within(signer, 0, 999) {
			code = 0
		}
		next := checkWriteCode(t, "sign", open, signBy(5, signer), code)
		if code == 0 && !samePage(next[0], signedPage(5, 1, "open", signer)) {
			t.Errorf("by %d: %+v", signer, next)
		}
		// A Signer counts for nothing where nobody signs.
		w := newOf(6, "new")
		w.Signer = signer
		if next := checkWriteCode(t, "new", open, w, 0); !samePage(next[1], openPage(6, 1, "new")) {
			t.Errorf("by %d: %+v", signer, next)
		}
		w = editOf(5, "new")
		w.Signer = signer
		if next := checkWriteCode(t, "edit", open, w, 0); !samePage(next[0], openPage(5, 1, "new")) {
			t.Errorf("by %d: %+v", signer, next)
		}
	}
}

func TestWritesOfFullRecords(t *testing.T) {
	for _, docs := range []int64{1, 3, 500} {
		fewer := pagesTo(499, docs)
		doc, version := int64(499)%docs, int64(499)/docs+1
		full := checkWriteCode(t, "the last page", fewer, newOf(doc, "last"), 0)
		if len(full) != 500 || !samePage(full[499], openPage(doc, version, "last")) {
			t.Fatal(len(full))
		}
		checkWriteCode(t, "open and full", full, newOf(doc, "more"), 5)
		checkWriteCode(t, "full, another document", full, newOf(777, "more"), 6)
		checkWriteCode(t, "full, no document", full, newOf(1000, "more"), 2)
		checkWriteCode(t, "full, none to edit", full, editOf(777, "more"), 3)
		checkWriteCode(t, "full, none to sign", full, signBy(777, 8), 3)
		// What adds no page needs no room.
		full = checkWriteCode(t, "edit of a full record", full, editOf(doc, "edited"), 0)
		full = checkWriteCode(t, "sign of a full record", full, signBy(doc, 8), 0)
		if !samePage(full[499], signedPage(doc, version, "edited", 8)) {
			t.Errorf("%+v", full[499])
		}
		checkWriteCode(t, "full", full, newOf(doc, "more"), 6)
		checkWriteCode(t, "full, signed", full, editOf(doc, "more"), 4)
		checkWriteCode(t, "full, signed", full, signBy(doc, 9), 4)
		checkWriteCode(t, "one page too many", append(anewPages(full), openPage(777, 1, "")), newOf(778, ""), 1)
	}
}

// Each code in a write to which it alone applies.
func TestEachCodeOfAWriteAlone(t *testing.T) {
	record := aRecord()
	wrong := anewPages(record)
	wrong[2].Sign++
	long := strings.Repeat("x", 2049)
	for _, r := range []struct {
		pages []impl.Page
		w     impl.Write
		code  int64
	}{
		{record, newOf(0, ""), 0}, {record, newOf(999, "x"), 0}, {record, newOf(1, "x"), 0}, {record, editOf(5, "x"), 0}, {record, editOf(7, "x"), 0}, {record, signBy(5, 8), 0}, {record, signBy(7, 0), 0},
		{wrong, newOf(0, ""), 1}, {wrong, editOf(5, "x"), 1}, {wrong, signBy(7, 8), 1}, {pagesTo(501, 501), editOf(5, ""), 1},
		{record, impl.Write{Kind: 0, Doc: 0, Signer: 8}, 2}, {record, impl.Write{Kind: 4, Doc: 0, Signer: 8}, 2}, {record, newOf(-1, ""), 2}, {record, newOf(1000, ""), 2}, {record, newOf(0, long), 2}, {record, editOf(7, long), 2}, {record, signBy(7, -1), 2}, {record, signBy(7, 1000), 2},
		{record, editOf(1, "x"), 3}, {record, signBy(998, 8), 3}, {nil, editOf(0, "x"), 3}, {nil, signBy(0, 0), 3},
		{record, editOf(0, "x"), 4}, {record, signBy(0, 8), 4}, {record, editOf(999, "last"), 4}, {record, signBy(999, 8), 4},
		{record, newOf(5, "x"), 5}, {record, newOf(7, "draft"), 5},
		{pagesTo(500, 3), newOf(0, "x"), 6}, {pagesTo(500, 3), newOf(3, ""), 6},
	} {
		checkWriteCode(t, "alone", r.pages, r.w, r.code)
		codes := wantedWriteCodes(r.pages, r.w)
		if r.code == 1 {
			codes = codes[:1] // what is no record may have more pages than one
		}
		if r.code != 0 && !slices.Equal(codes, []int64{r.code}) {
			t.Errorf("%+v: %v apply", r.w, codes)
		}
	}
}

// Writes to which several codes apply: the one that is named first is told.
func TestWhichCodeOfAWriteComesFirst(t *testing.T) {
	full := pagesTo(500, 3)
	full[499] = openPage(full[499].Doc, full[499].Version, "open")
	wrong, wrongFull := anewPages(aRecord()), anewPages(full)
	wrong[0].Version, wrongFull[0].Sign = 2, 0
	open := full[499].Doc
	long := strings.Repeat("x", 2049)
	for _, r := range []struct {
		pages []impl.Page
		w     impl.Write
		codes []int64
	}{
		{wrong, impl.Write{Kind: 7}, []int64{1, 2}}, {wrong, newOf(-1, ""), []int64{1, 2}}, {wrong, editOf(1, "x"), []int64{1, 3}}, {wrong, signBy(0, 8), []int64{1, 4}}, {wrong, newOf(7, ""), []int64{1, 5}},
		{wrong, editOf(0, long), []int64{1, 2, 4}}, {wrongFull, newOf(4, ""), []int64{1, 6}}, {wrongFull, newOf(open, long), []int64{1, 2, 5, 6}},
		{aRecord(), editOf(1, long), []int64{2, 3}}, {aRecord(), signBy(1, -1), []int64{2, 3}}, {aRecord(), editOf(-1, "x"), []int64{2, 3}}, {aRecord(), signBy(1000, 8), []int64{2, 3}},
		{aRecord(), editOf(0, long), []int64{2, 4}}, {aRecord(), signBy(0, 1000), []int64{2, 4}}, {aRecord(), newOf(7, long), []int64{2, 5}},
		{full, newOf(4, long), []int64{2, 6}}, {full, newOf(open, long), []int64{2, 5, 6}}, {full, newOf(open, ""), []int64{5, 6}}, {full, newOf(1000, ""), []int64{2, 6}},
	} {
		checkWriteCode(t, "some codes", r.pages, r.w, r.codes[0])
		if codes := wantedWriteCodes(r.pages, r.w); !slices.Equal(codes, r.codes) {
			t.Errorf("%+v: %v apply, want %v", r.w, codes, r.codes)
		}
	}
}

// randomWrite is often one that the record takes.
func randomWrite(coins *rand.Rand) impl.Write {
	w := impl.Write{Kind: 1 + coins.Int63n(3), Doc: coins.Int63n(4), Body: randomBytes(coins, coins.Intn(5)), Signer: coins.Int63n(1000)}
	if coins.Intn(15) == 0 {
		wild := []int64{math.MinInt64, -1, 0, 4, 999, 1000, math.MaxInt64}
		*[]*int64{&w.Kind, &w.Doc, &w.Signer}[coins.Intn(3)] = wild[coins.Intn(len(wild))]
	}
	if coins.Intn(40) == 0 {
		w.Body = bytes.Repeat([]byte{7}, 2047+coins.Intn(3))
	}
	return w
}

func TestWritesOfManyRecords(t *testing.T) {
	coins := rand.New(rand.NewSource(135))
	seen := [7]int{}
	for range 20000 {
		pages := randomRecord(coins, 8)
		if coins.Intn(10) == 0 {
			spoilRecord(coins, pages)
		}
		_, code := checkWrite(t, "random", pages, randomWrite(coins))
		seen[code]++
	}
	for code, count := range seen[:6] {
		if count < 300 {
			t.Error("too few of a code:", code, count)
		}
	}
}
