package tests

// textsOver returns all texts of at most size bytes of the alphabet, the shorter ones first.
func textsOver(alphabet string, size int) []string {
	texts := []string{""}
	start := 0
	for range size {
		end := len(texts)
		for _, text := range texts[start:end] {
			for i := range len(alphabet) {
				texts = append(texts, text+alphabet[i:i+1])
			}
		}
		start = end
	}
	return texts
}

// everyByte returns all 256 bytes in ascending order.
func everyByte() string {
	all := make([]byte, 256)
	for i := range all {
		all[i] = byte(i)
	}
	return string(all)
}
