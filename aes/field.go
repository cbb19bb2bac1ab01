package aes

// modulus is x^8 + x^4 + x^3 + x + 1: the polynomial that counts as 0 in the field.
const modulus = 0x11b

// Times is the product of a and b in the field: the product of the polynomials first, whose highest power is x^14, then what the modulus leaves of it.
func Times(a, b byte) byte {
	product := uint16(0)
	for i := range 8 {
		if b>>i&1 == 1 {
			product ^= uint16(a) << i
		}
	}
	for i := 14; i >= 8; i-- {
		if product>>i&1 == 1 {
			product ^= modulus << (i - 8)
		}
	}
	return byte(product)
}

// double is Times(2, b), by itself because each round asks for it so often.
func double(b byte) byte {
	wide := uint16(b) << 1
	return byte(wide ^ (wide>>8)*modulus)
}

// substitutes is the substitute of each byte.
func substitutes() [256]byte {
	// Every byte but 0 is a power of 3, and 3 to the power 255 is 1: so the inverse of the i-th power is the one at 255 - i.
	var powers [255]byte
	power := byte(1)
	for i := range powers {
		powers[i] = power
		power ^= double(power)
	}
	var subs [256]byte
	subs[0] = scatter(0)
	for i, b := range powers {
		subs[b] = scatter(powers[(255-i)%255])
	}
	return subs
}

// scatter is what a byte whose inverse is c is substituted by.
func scatter(c byte) byte {
	// Two copies of c side by side, moved to the right by n, have at each place i the bit of c at i + n, modulo 8.
	twice := uint16(c)<<8 | uint16(c)
	return byte(twice^twice>>4^twice>>5^twice>>6^twice>>7) ^ 0x63
}

// origins is, for each byte, the one of which it is the substitute.
func origins(subs *[256]byte) [256]byte {
	var back [256]byte
	for b, s := range subs {
		back[s] = byte(b)
	}
	return back
}
