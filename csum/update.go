package csum

// replacer returns what replaces one word after the other, and returns the checksum after each.
func replacer(check uint16) func(old, new uint16) uint16 {
	return func(old, new uint16) uint16 {
		check = most - Join(most-check, most-old, new)
		return check
	}
}

// Update returns the checksum after a word has been replaced.
func Update(check, old, new uint16) uint16 { return replacer(check)(old, new) }

// Update32 returns the checksum after two words have been replaced.
func Update32(check uint16, old, new uint32) uint16 {
	replace := replacer(check)
	replace(upper(old), upper(new))
	return replace(lower(old), lower(new))
}

func upper(n uint32) uint16 { return uint16(n >> 16) }

func lower(n uint32) uint16 { return uint16(n) }
