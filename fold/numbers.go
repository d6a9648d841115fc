package fold

import "ravel/api"

// greatest is the greatest number that can be written: longer ones are none.
const greatest = 999999999

// canBeWritten tells whether the number that an expression always is can stand in a text, perhaps behind a `-`.
func (f *folder) canBeWritten(number int) bool {
	num, _ := f.Always(number)
	return num >= -greatest && num <= greatest
}

// value puts the number that an expression always is.
func (f *folder) value(number int) int {
	num, _ := f.Always(number)
	switch {
	case f.Texts[number] == "bool":
		return f.truth(num)
	case num < 0:
		return f.put(api.Node{Kind: api.KNeg}, f.number(-num))
	}
	return f.number(num)
}

func (f *folder) number(num int) int {
	return f.put(api.Node{Kind: api.KNumber, Num: num})
}

func (f *folder) truth(num int) int {
	return f.put(api.Node{Kind: api.KTruth, Num: num})
}
