package tests

import (
	"bytes"
	"fmt"
	"math"
	"math/rand"
	"slices"
	"testing"

	"loop.example/g00060/impl"
)

// signFor goes by the document's words, whatever the numbers of the page.
func signFor(p impl.Page) int64 {
	return wantedDigest(fmt.Appendf(nil, "%d\n%d\n%d\n%s", p.Doc, p.Version, p.Signer, p.Body))
}

func openPage(doc, version int64, body string) impl.Page {
	return impl.Page{Doc: doc, Version: version, Body: []byte(body), Signer: -1}
}

func signedPage(doc, version int64, body string, signer int64) impl.Page {
	return signedAnew(impl.Page{Doc: doc, Version: version, Body: []byte(body), Signer: signer})
}

// signedAnew has the Sign that is right for all else of it.
func signedAnew(p impl.Page) impl.Page {
	p.Sign = signFor(p)
	return p
}

// aRecord has documents with pages that are all signed, that wait to be signed, and both.
func aRecord() []impl.Page {
	return []impl.Page{
		signedPage(5, 1, "one", 8),
		signedPage(0, 1, "", 0),
		signedPage(5, 2, "two", 999),
		openPage(7, 1, "draft"),
		openPage(5, 3, "three"),
		signedPage(0, 2, "nought\n", 8),
		signedPage(999, 1, "last", 8),
	}
}

func isPage(p impl.Page) bool {
	if !within(p.Doc, 0, 999) || p.Version < 1 || len(p.Body) > 2048 {
		return false
	}
	if p.Signer == -1 {
		return p.Sign == 0
	}
	return within(p.Signer, 0, 999) && p.Sign == signFor(p)
}

// isRecord looks at the pages of each document by themselves.
func isRecord(pages []impl.Page) bool {
	docs := map[int64][]impl.Page{}
	for _, p := range pages {
		if !isPage(p) {
			return false
		}
		docs[p.Doc] = append(docs[p.Doc], p)
	}
	for _, list := range docs {
		for at, p := range list {
			if p.Version != int64(at)+1 || p.Signer == -1 && at < len(list)-1 {
				return false
			}
		}
	}
	return len(pages) <= 500
}

func samePage(a, b impl.Page) bool {
	return a.Doc == b.Doc && a.Version == b.Version && bytes.Equal(a.Body, b.Body) && a.Signer == b.Signer && a.Sign == b.Sign
}

func samePages(a, b []impl.Page) bool { return slices.EqualFunc(a, b, samePage) }

func anewPages(pages []impl.Page) []impl.Page {
	list := slices.Clone(pages)
	for at := range list {
		list[at].Body = slices.Clone(list[at].Body)
	}
	return list
}

func checkRecordOk(t *testing.T, what string, pages []impl.Page, want bool) {
	t.Helper()
	if got := impl.RecordOk(pages); got != want {
		t.Errorf("%s: RecordOk(%+v) = %v, want %v", what, pages, got, want)
	}
	if isRecord(pages) != want {
		t.Errorf("%s: %+v is told wrongly by the test", what, pages)
	}
	if !want {
		checkNoRecord(t, what, pages)
	}
}

// checkNoRecord asks for the fixed answers to what is no record.
func checkNoRecord(t *testing.T, what string, pages []impl.Page) {
	t.Helper()
	for _, doc := range []int64{-1, 0, 5, 7, 999, 1000} {
		if body, ok := impl.Latest(pages, doc); ok || len(body) != 0 {
			t.Errorf("%s: Latest of %d: %q, %v", what, doc, body, ok)
		}
		for kind := int64(0); kind <= 4; kind++ {
			if next, code := impl.RecordDo(pages, impl.Write{Kind: kind, Doc: doc, Body: []byte("new"), Signer: 8}); code != 1 || len(next) != 0 {
				t.Errorf("%s: write %d: %+v, %d", what, kind, next, code)
			}
		}
	}
}

// checkPageOf asks for the page alone, and among pages of other documents.
func checkPageOf(t *testing.T, what string, p impl.Page, want bool) {
	t.Helper()
	checkRecordOk(t, what, []impl.Page{p}, want)
	checkRecordOk(t, what+", the first", []impl.Page{p, openPage(77, 1, "")}, want)
	checkRecordOk(t, what+", the last", []impl.Page{signedPage(77, 1, "", 3), p}, want)
	checkRecordOk(t, what+", between", []impl.Page{signedPage(77, 1, "", 3), p, signedPage(77, 2, "x", 3)}, want)
}

func TestRecords(t *testing.T) {
	checkRecordOk(t, "nothing", nil, true)
	checkRecordOk(t, "no page", []impl.Page{}, true)
	checkRecordOk(t, "several documents", aRecord(), true)
	for count := range aRecord() {
		checkRecordOk(t, "a beginning", aRecord()[:count], true)
	}
	checkRecordOk(t, "the zero page", make([]impl.Page, 1), false)
}

func TestDocumentsOfPages(t *testing.T) {
	for _, doc := range []int64{math.MinInt64, -1000, -1, 0, 1, 500, 998, 999, 1000, 1001, math.MaxInt64} {
		checkPageOf(t, "Doc, not signed", openPage(doc, 1, "text"), within(doc, 0, 999))
		checkPageOf(t, "Doc, signed", signedPage(doc, 1, "text", 8), within(doc, 0, 999))
	}
}

func TestFirstVersions(t *testing.T) {
	for _, version := range []int64{math.MinInt64, -1, 0, 1, 2, 3, 500, math.MaxInt64} {
		checkPageOf(t, "Version, not signed", openPage(5, version, "text"), version == 1)
		checkPageOf(t, "Version, signed", signedPage(5, version, "text", 8), version == 1)
	}
}

// versionsOf has pages of document 5 with these Versions, all of which are signed.
func versionsOf(versions ...int64) []impl.Page {
	var pages []impl.Page
	for _, version := range versions {
		pages = append(pages, signedPage(5, version, "text", 8))
	}
	return pages
}

func TestVersionsInOrder(t *testing.T) {
	for _, c := range []struct {
		versions []int64
		right    bool
	}{
		{[]int64{1, 2}, true}, {[]int64{1, 2, 3}, true}, {[]int64{1, 2, 3, 4, 5, 6, 7, 8, 9, 10, 11}, true},
		{[]int64{0, 1}, false}, {[]int64{1, 0}, false}, {[]int64{1, -1}, false}, {[]int64{0, 1, 2}, false},
		{[]int64{1, 3}, false}, {[]int64{1, 2, 4}, false}, {[]int64{1, 3, 4}, false}, {[]int64{2, 3}, false}, {[]int64{1, 3, 2}, false},
		{[]int64{1, 1}, false}, {[]int64{1, 1, 2}, false}, {[]int64{1, 2, 2}, false}, {[]int64{1, 2, 1}, false}, {[]int64{1, 2, 2, 3}, false},
		{[]int64{2, 1}, false}, {[]int64{3, 2, 1}, false}, {[]int64{1, 2, 3, 2}, false}, {[]int64{1, 2, 1, 2}, false},
		{[]int64{1, math.MaxInt64}, false}, {[]int64{math.MaxInt64, math.MinInt64}, false}, {[]int64{1, math.MinInt64}, false}, {[]int64{-1, 0, 1}, false},
	} {
		pages := versionsOf(c.versions...)
		checkRecordOk(t, "Versions", pages, c.right)
		checkRecordOk(t, "Versions with another document ahead", append([]impl.Page{openPage(6, 1, "")}, pages...), c.right)
		mixed := []impl.Page{}
		for at, p := range pages {
			mixed = append(mixed, p, signedPage(6, int64(at)+1, "other", 9))
		}
		checkRecordOk(t, "Versions with another document between", mixed, c.right)
	}
}

// The Versions of a document go on for themselves, whatever stands between.
func TestDocumentsAmongOneAnother(t *testing.T) {
	one := func(doc, version int64) impl.Page { return signedPage(doc, version, "text", 8) }
	checkRecordOk(t, "in turn", []impl.Page{one(1, 1), one(2, 1), one(1, 2), one(2, 2), openPage(1, 3, ""), openPage(2, 3, "")}, true)
	checkRecordOk(t, "one within the other", []impl.Page{one(1, 1), one(2, 1), one(2, 2), one(2, 3), one(1, 2)}, true)
	checkRecordOk(t, "falling documents", []impl.Page{one(9, 1), one(8, 1), one(7, 1), openPage(9, 2, "")}, true)
	checkRecordOk(t, "counted across documents", []impl.Page{one(1, 1), one(2, 2), one(1, 3)}, false)
	checkRecordOk(t, "a gap in one of them", []impl.Page{one(1, 1), one(2, 1), one(1, 3), one(2, 2)}, false)
	checkRecordOk(t, "the second ahead of the first", []impl.Page{one(1, 1), one(2, 2), one(2, 1)}, false)
	checkRecordOk(t, "all are open", []impl.Page{openPage(1, 1, ""), openPage(2, 1, ""), openPage(3, 1, "")}, true)
}

func TestBodiesOfPages(t *testing.T) {
	checkPageOf(t, "a Body that is nil", impl.Page{Doc: 5, Version: 1, Signer: -1}, true)
	coins := rand.New(rand.NewSource(133))
	for _, count := range []int{0, 1, 2047, 2048, 2049, 2050, 4096, 100001} {
		body := string(randomBytes(coins, count))
		checkPageOf(t, "Body, not signed", openPage(5, 1, body), count <= 2048)
		checkPageOf(t, "Body, signed", signedPage(5, 1, body, 8), count <= 2048)
	}
	for _, body := range []string{"\x00", "\xff", "\n", "5\n1\n8\n", "\x00\x00\xff\xfe", "é"} {
		checkPageOf(t, "bytes of any kind", signedPage(5, 1, body, 8), true)
	}
}

func TestSignersOfPages(t *testing.T) {
	for _, signer := range []int64{math.MinInt64, -1000, -2, 0, 1, 500, 998, 999, 1000, 1001, math.MaxInt64} {
		p := openPage(5, 1, "text")
		p.Signer = signer
		checkPageOf(t, "Signer, Sign as told", signedAnew(p), within(signer, 0, 999))
		checkPageOf(t, "Signer, no Sign", p, false)
	}
}

func TestSignsOfPages(t *testing.T) {
	for _, sign := range []int64{math.MinInt64, -1, 0, 1, 1000000006, 1000000007, math.MaxInt64} {
		p := openPage(5, 1, "text")
		p.Sign = sign
		checkPageOf(t, "Sign where nobody signed", p, sign == 0)
	}
	checkPageOf(t, "the digest where nobody signed", signedAnew(openPage(5, 1, "text")), false)
	for _, p := range []impl.Page{signedPage(5, 1, "text", 8), signedPage(0, 1, "", 0), signedPage(999, 1, "long enough for the modulus", 999)} {
		checkPageOf(t, "as told", p, true)
		for _, aside := range []int64{-1000000007, -257, -1, 1, 2, 257, 1000000007} {
			other := p
			other.Sign += aside
			checkPageOf(t, "beside it", other, false)
		}
		other := p
		other.Sign = 0
		checkPageOf(t, "signed with 0", other, false)
		other.Sign = wantedDigest(p.Body)
		checkPageOf(t, "the digest of the Body alone", other, false)
	}
	checkPageOf(t, "the given Sign", impl.Page{Doc: 0, Version: 1, Body: []byte{9}, Signer: 2, Sign: wantedDigest([]byte{48, 10, 49, 10, 50, 10, 9})}, true)
	checkPageOf(t, "numbers of several digits", impl.Page{Doc: 120, Version: 1, Body: []byte("b"), Signer: 34, Sign: wantedDigest([]byte("120\n1\n34\nb"))}, true)
	for _, text := range []string{"120\n34\n1\nb", "1\n120\n34\nb", "120134b", "120\n1\n34b", "120 1 34 b", "120\n1\n34\nb\n", "b120\n1\n34\n", "120\n01\n34\nb"} {
		checkPageOf(t, "digests of other texts", impl.Page{Doc: 120, Version: 1, Body: []byte("b"), Signer: 34, Sign: wantedDigest([]byte(text))}, false)
	}
}

// A Sign that is right for one page is wrong for a page that differs in one field.
func TestASignIsOfAllOfAPage(t *testing.T) {
	pages := versionsOf(1, 2, 3)
	for _, change := range []func(p *impl.Page){
		func(p *impl.Page) { p.Body = []byte("texts") }, func(p *impl.Page) { p.Body = []byte("tex") }, func(p *impl.Page) { p.Body = []byte("Text") }, func(p *impl.Page) { p.Body = nil },
		func(p *impl.Page) { p.Signer = 9 }, func(p *impl.Page) { p.Signer = -1 },
	} {
		for at := range pages {
			other := anewPages(pages)
			change(&other[at])
			checkRecordOk(t, "changed behind signing", other, false)
		}
	}
	other := anewPages(pages)
	for at := range other {
		other[at].Doc = 6
	}
	checkRecordOk(t, "another document", other, false)
	other = anewPages(pages)
	other[0].Sign, other[1].Sign = other[1].Sign, other[0].Sign
	checkRecordOk(t, "the Signs of two pages exchanged", other, false)
}

func TestPagesThatAreNotSigned(t *testing.T) {
	for count := range int64(5) {
		for open := range count {
			pages := []impl.Page{}
			for at := range count {
				p := signedPage(5, at+1, "text", 8)
				if at == open {
					p = openPage(5, at+1, "text")
				}
				pages = append(pages, p, signedPage(6, at+1, "other", 8))
			}
			checkRecordOk(t, "one that is not signed", pages, open == count-1)
		}
	}
	checkRecordOk(t, "the last two", []impl.Page{signedPage(5, 1, "", 8), openPage(5, 2, ""), openPage(5, 3, "")}, false)
	checkRecordOk(t, "both", []impl.Page{openPage(5, 1, ""), openPage(5, 2, "")}, false)
	checkRecordOk(t, "the last of each document", []impl.Page{openPage(5, 1, ""), signedPage(6, 1, "", 8), openPage(6, 2, "")}, true)
	checkRecordOk(t, "one that goes on far behind", []impl.Page{openPage(5, 1, ""), signedPage(6, 1, "", 8), openPage(7, 1, ""), signedPage(5, 2, "", 8)}, false)
}

// pagesTo has so many signed pages of some documents.
func pagesTo(count int, docs int64) []impl.Page {
	pages := make([]impl.Page, count)
	for at := range pages {
		pages[at] = signedPage(int64(at)%docs, int64(at)/docs+1, "page", int64(at))
	}
	return pages
}

func TestHowManyPages(t *testing.T) {
	for _, docs := range []int64{1, 2, 7, 501} {
		for count, right := range map[int]bool{1: true, 2: true, 499: true, 500: true, 501: false, 502: false, 1000: false} {
			checkRecordOk(t, "pages", pagesTo(count, docs), right)
		}
		pages := pagesTo(500, docs)
		pages[499].Sign++
		checkRecordOk(t, "the last of MaxPages is tampered with", pages, false)
		pages = pagesTo(500, docs)
		pages[499] = openPage(pages[499].Doc, pages[499].Version, "open")
		checkRecordOk(t, "the last of MaxPages is open", pages, true)
	}
	body := string(bytes.Repeat([]byte{255}, 2048))
	pages := pagesTo(500, 3)
	for at := range pages {
		pages[at] = signedPage(pages[at].Doc, pages[at].Version, body, 999)
	}
	checkRecordOk(t, "all of it full", pages, true)
	pages[250].Body[2047]--
	checkRecordOk(t, "all of it full, one byte changed", pages, false)
}

// randomRecord is a record of few documents, so that they have several pages each.
func randomRecord(coins *rand.Rand, most int) []impl.Page {
	pages, versions, open := []impl.Page{}, map[int64]int64{}, map[int64]bool{}
	for range coins.Intn(most + 1) {
		doc := coins.Int63n(4)
		if open[doc] {
			continue
		}
		versions[doc]++
		body := string(randomBytes(coins, coins.Intn(6)))
		if open[doc] = coins.Intn(4) == 0; open[doc] {
			pages = append(pages, openPage(doc, versions[doc], body))
		} else {
			pages = append(pages, signedPage(doc, versions[doc], body, coins.Int63n(1000)))
		}
	}
	return pages
}

// spoilRecord makes one number or byte of it some other one; the Sign is, at times, made right for that.
func spoilRecord(coins *rand.Rand, pages []impl.Page) {
	if len(pages) == 0 {
		return
	}
	wild := []int64{math.MinInt64, -2, -1, 0, 1, 2, 3, 4, 500, 999, 1000, math.MaxInt64}
	p := &pages[coins.Intn(len(pages))]
	if len(p.Body) > 0 && coins.Intn(4) == 0 {
		p.Body[coins.Intn(len(p.Body))]++
	} else {
		*[]*int64{&p.Doc, &p.Version, &p.Signer, &p.Sign}[coins.Intn(4)] = wild[coins.Intn(len(wild))]
	}
	if p.Signer != -1 && coins.Intn(2) == 0 {
		p.Sign = signFor(*p)
	}
}

func TestRecordOkOfManyRecords(t *testing.T) {
	coins := rand.New(rand.NewSource(134))
	answers := map[bool]int{}
	for range 20000 {
		pages := randomRecord(coins, 10)
		for range coins.Intn(3) {
			spoilRecord(coins, pages)
		}
		if len(pages) > 1 && coins.Intn(5) == 0 {
			at := coins.Intn(len(pages) - 1)
			pages[at], pages[at+1] = pages[at+1], pages[at]
		}
		want := isRecord(pages)
		if got := impl.RecordOk(pages); got != want {
			t.Fatalf("RecordOk(%+v) = %v", pages, got)
		}
		answers[want]++
	}
	if answers[true] < 3000 || answers[false] < 3000 {
		t.Error(answers)
	}
}
