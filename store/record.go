package store

import (
	"strconv"
	"strings"

	"weirgate/api"
	"weirgate/hash"
)

// How objects are written: an object is some pieces, one chunk each, of the packed entry. Each time it is put it gets a version, which is greater than all before; the greatest version of which all pieces are there counts. A tombstone (a record without pieces) says that all versions up to its own are gone. So an object changes at once, with its last piece, and goes at once, with its tombstone; what does not count any more is left out when its segment is emptied.

// tagName is the tag of digests of names.
const tagName = 36

// record is what the key of a chunk says: the object (the digest of its name), its version, which of how many pieces this is, and the tenant.
type record struct {
	name                          api.Digest
	version, piece, count, tenant int
}

func digestOf(name string) api.Digest { return hash.Of(tagName, name) }

func (r record) isTombstone() bool { return r.count == 0 }

// key returns the key of a chunk.
func (r record) key() string {
	numbers := []string{strconv.Itoa(r.version), strconv.Itoa(r.piece), strconv.Itoa(r.count), strconv.Itoa(r.tenant)}
	return string(r.name[:]) + strings.Join(numbers, " ")
}

// readRecord returns the record whose key a text is.
func readRecord(key string) (record, bool) {
	if len(key) < api.DigestSize {
		return record{}, false
	}
	r := record{name: api.Digest([]byte(key[:api.DigestSize]))}
	fields := strings.Split(key[api.DigestSize:], " ")
	numbers := []*int{&r.version, &r.piece, &r.count, &r.tenant}
	if len(fields) != len(numbers) {
		return record{}, false
	}
	for i, n := range numbers {
		*n, _ = strconv.Atoi(fields[i])
	}
	return r, r.key() == key
}
