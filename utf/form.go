package utf

const (
	bitsEach  = 6 // of a character, in each byte of its form behind the first
	lowBits   = 1<<bitsEach - 1
	firstBits = 1<<7 - 1 // in the first byte there are of these as many fewer as the form has bytes

	// What stands above the bits of a character, in the bytes behind the first and in the first one of two, three and four.
	behind  = 128
	ofTwo   = 192
	ofThree = 224
	ofFour  = 240

	mostSize = 4 // bytes of a form
)

// lead is the bytes from first to last, which begin forms of so many bytes whose second one is from low to high.
type lead struct {
	first, last byte
	size        int
	low, high   byte
}

// leads is what may follow a first byte. The bytes that are missing begin longer forms than a character has, or none at all; where the second byte is held to fewer than 128 to 191, the others would make a longer form than the character has (of 224, 240), one from 55296 to 57343 (of 237), or one above 1114111 (of 244).
var leads = [...]lead{
	{first: 0, last: 127, size: 1},
	{first: 194, last: 223, size: 2, low: 128, high: 191},
	{first: 224, last: 224, size: 3, low: 160, high: 191},
	{first: 225, last: 236, size: 3, low: 128, high: 191},
	{first: 237, last: 237, size: 3, low: 128, high: 159},
	{first: 238, last: 239, size: 3, low: 128, high: 191},
	{first: 240, last: 240, size: 4, low: 144, high: 191},
	{first: 241, last: 243, size: 4, low: 128, high: 191},
	{first: 244, last: 244, size: 4, low: 128, high: 143},
}

// leadOf is what b begins; of the size 0, if it begins nothing.
func leadOf(b byte) lead {
	// By places, as going through the values would copy the whole array for each byte.
	for i := range leads {
		if b >= leads[i].first && b <= leads[i].last {
			return leads[i]
		}
	}
	return lead{}
}

// mayFollow is whether b may stand at a place, from 1 on, of the forms that x begins.
func (x lead) mayFollow(place int, b byte) bool {
	if place == 1 {
		return b >= x.low && b <= x.high
	}
	return b&^lowBits == behind
}

// appendForm puts the form of a character behind out.
func appendForm(out []byte, c rune) []byte {
	switch {
	case c < 1<<7:
		return append(out, byte(c))
	case c < 1<<11:
		return append(out, ofTwo|byte(c>>bitsEach), lowest(c))
	case c < 1<<16:
		return append(out, ofThree|byte(c>>(2*bitsEach)), lowest(c>>bitsEach), lowest(c))
	}
	return append(out, ofFour|byte(c>>(3*bitsEach)), lowest(c>>(2*bitsEach)), lowest(c>>bitsEach), lowest(c))
}

// lowest is the byte of a form that has the lowest bits of c.
func lowest(c rune) byte {
	return behind | byte(c&lowBits)
}
