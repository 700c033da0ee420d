package impl

import (
	"strconv"
	"strings"
)

const (
	ErrNone     = 0
	ErrInvalid  = 1
	ErrRange    = 2
	ErrLimit    = 3
	ErrNotFound = 4
	ErrState    = 5
	ErrSyntax   = 6
)

const (
	MaxSide   = 48
	MaxEntry  = 1000000000000
	MaxVolume = 1000000000
)

const maxMatrixDigits = 13

type Matrix struct {
	Rows    int64
	Columns int64
	Entries []int64
}

// IsMatrix reports whether m is valid.
func IsMatrix(m Matrix) bool {
	if !isSide(m.Rows) || !isSide(m.Columns) {
		return false
	}
	if int64(len(m.Entries)) != m.Rows*m.Columns {
		return false
	}
	return areEntries(m.Entries)
}

// areEntries reports whether all numbers of the list are permitted as entries.
func areEntries(list []int64) bool {
	for _, x := range list {
		if !isEntry(x) {
			return false
		}
	}
	return true
}

func isEntry(x int64) bool {
	return x >= -MaxEntry && x <= MaxEntry
}

func isSide(n int64) bool {
	return n >= 0 && n <= MaxSide
}

// IdentityMatrix returns the matrix with n rows and columns that has 1 on the diagonal and 0
// elsewhere, and true. It returns the zero value and false if n is not in 0..MaxSide.
func IdentityMatrix(n int64) (Matrix, bool) {
	if !isSide(n) {
		return Matrix{}, false
	}
	m := zeroMatrix(n, n)
	for i := range n {
		m.set(i, i, 1)
	}
	return m, true
}

func zeroMatrix(rows int64, columns int64) Matrix {
	return Matrix{Rows: rows, Columns: columns, Entries: make([]int64, rows*columns)}
}

func (m Matrix) at(row int64, column int64) int64 {
	return m.Entries[row*m.Columns+column]
}

func (m Matrix) set(row int64, column int64, value int64) {
	m.Entries[row*m.Columns+column] = value
}

func (m Matrix) has(row int64, column int64) bool {
	return row >= 0 && row < m.Rows && column >= 0 && column < m.Columns
}

func (m Matrix) clone() Matrix {
	c := zeroMatrix(m.Rows, m.Columns)
	copy(c.Entries, m.Entries)
	return c
}

// EntryAt returns an entry and true. It returns 0 and false if m is not valid or has no such row
// or column.
func EntryAt(m Matrix, row int64, column int64) (int64, bool) {
	if !IsMatrix(m) || !m.has(row, column) {
		return 0, false
	}
	return m.at(row, column), true
}

// Transpose returns the matrix with rows and columns exchanged. It returns the zero value if m is
// not valid.
func Transpose(m Matrix) Matrix {
	if !IsMatrix(m) {
		return Matrix{}
	}
	t := zeroMatrix(m.Columns, m.Rows)
	for i := range m.Rows {
		for j := range m.Columns {
			t.set(j, i, m.at(i, j))
		}
	}
	return t
}

// MultiplyMatrices returns the product of a and b, and ErrNone. Errors, in this order: ErrInvalid
// if a or b is not valid; ErrRange if the number of columns of a is not the number of rows of b;
// ErrLimit if, for some entry of the product, the sum of the absolute values of the products of
// which it is the sum is greater than MaxEntry.
func MultiplyMatrices(a Matrix, b Matrix) (Matrix, int64) {
	if !IsMatrix(a) || !IsMatrix(b) {
		return Matrix{}, ErrInvalid
	}
	if a.Columns != b.Rows {
		return Matrix{}, ErrRange
	}
	p := zeroMatrix(a.Rows, b.Columns)
	for i := range a.Rows {
		for j := range b.Columns {
			sum, ok := a.rowTimesColumn(i, b, j)
			if !ok {
				return Matrix{}, ErrLimit
			}
			p.set(i, j, sum)
		}
	}
	return p, ErrNone
}

// rowTimesColumn returns the entry (row, column) of the product of m and b, or false if the
// absolute values of its summands add up to more than MaxEntry. Each product is held against what
// is left of the limit by a division, because it may not fit into an int64.
func (m Matrix) rowTimesColumn(row int64, b Matrix, column int64) (int64, bool) {
	sum, left := int64(0), int64(MaxEntry)
	for k := range m.Columns {
		x, y := m.at(row, k), b.at(k, column)
		if x == 0 {
			continue
		}
		if magnitude(y) > left/magnitude(x) {
			return 0, false
		}
		sum += x * y
		left -= magnitude(x * y)
	}
	return sum, true
}

// magnitude returns the absolute value; it is called only with numbers far from the ends of int64.
func magnitude(x int64) int64 {
	if x < 0 {
		return -x
	}
	return x
}

// Determinant returns the determinant, and ErrNone; it is 1 for a matrix without rows. Errors, in
// this order: ErrInvalid if m is not valid; ErrRange if the numbers of rows and columns differ;
// ErrLimit if the product, over all rows, of the sum of the absolute values of the entries of the
// row, but at least 1, is greater than MaxVolume.
func Determinant(m Matrix) (int64, int64) {
	if !IsMatrix(m) {
		return 0, ErrInvalid
	}
	if m.Rows != m.Columns {
		return 0, ErrRange
	}
	if m.exceedsVolume() {
		return 0, ErrLimit
	}
	return m.clone().eliminate(), ErrNone
}

// exceedsVolume compares by a division, because the product may not fit into an int64.
func (m Matrix) exceedsVolume() bool {
	volume := int64(1)
	for i := range m.Rows {
		factor := max(1, m.rowSum(i))
		if factor > MaxVolume/volume {
			return true
		}
		volume *= factor
	}
	return false
}

func (m Matrix) rowSum(row int64) int64 {
	sum := int64(0)
	for j := range m.Columns {
		sum += magnitude(m.at(row, j))
	}
	return sum
}

// eliminate returns the determinant of a square matrix and changes the entries of m. It works
// without fractions (Bareiss): each entry that it computes is, but for its sign, a minor of m. If
// m does not exceed the volume, no minor exceeds MaxVolume, so that the products of two entries
// fit into an int64.
func (m Matrix) eliminate() int64 {
	sign, previous := int64(1), int64(1)
elimination:
	for k := range m.Rows {
		pivot := k
		for m.at(pivot, k) == 0 {
			pivot++
			if pivot == m.Rows {
				previous = 0
				break elimination
			}
		}
		if pivot != k {
			m.swapRows(pivot, k)
			sign = -sign
		}
		m.reduceBelow(k, previous)
		previous = m.at(k, k)
	}
	return sign * previous
}

func (m Matrix) swapRows(a int64, b int64) {
	for j := range m.Columns {
		x, y := m.at(a, j), m.at(b, j)
		m.set(a, j, y)
		m.set(b, j, x)
	}
}

// reduceBelow makes step k of the elimination; previous is the pivot of the step before it, by
// which every result is divisible.
func (m Matrix) reduceBelow(k int64, previous int64) {
	for i := k + 1; i < m.Rows; i++ {
		for j := k + 1; j < m.Columns; j++ {
			x := m.at(k, k)*m.at(i, j) - m.at(i, k)*m.at(k, j)
			m.set(i, j, x/previous)
		}
	}
}

// MinorOf returns m without a row and a column, and true. It returns the zero value and false if
// m is not valid or has no such row or column.
func MinorOf(m Matrix, row int64, column int64) (Matrix, bool) {
	if !IsMatrix(m) || !m.has(row, column) {
		return Matrix{}, false
	}
	k := Matrix{Rows: m.Rows - 1, Columns: m.Columns - 1}
	for i := range m.Rows {
		for j := range m.Columns {
			if i != row && j != column {
				k.Entries = append(k.Entries, m.at(i, j))
			}
		}
	}
	return k, true
}

// FormatMatrix returns the text of a matrix: Rows in decimal, the letter x, Columns, a colon, and
// for each entry a blank and the entry in decimal, with a minus sign if it is negative. It
// returns the empty string if m is not valid.
func FormatMatrix(m Matrix) string {
	if !IsMatrix(m) {
		return ""
	}
	var text strings.Builder
	text.WriteString(strconv.FormatInt(m.Rows, 10))
	text.WriteByte('x')
	text.WriteString(strconv.FormatInt(m.Columns, 10))
	text.WriteByte(':')
	for _, e := range m.Entries {
		text.WriteByte(' ')
		text.WriteString(strconv.FormatInt(e, 10))
	}
	return text.String()
}

// ParseMatrix returns the valid matrix with the text s, and ErrNone. Errors, in this order:
// ErrSyntax if s does not consist of a number, x, a number, a colon, and any number of further
// numbers, each preceded by one blank, where a number has 1 to 13 digits without superfluous
// leading zeros, preceded by a minus sign only if it is negative; ErrRange if the matrix with
// these parts is not valid.
func ParseMatrix(s string) (Matrix, int64) {
	m, ok := readMatrix(s)
	if !ok {
		return Matrix{}, ErrSyntax
	}
	if !IsMatrix(m) {
		return Matrix{}, ErrRange
	}
	return m, ErrNone
}

// readMatrix returns the parts that the text s has, whether or not they are those of a valid
// matrix, or false if s has not the form of a matrix's text.
func readMatrix(s string) (Matrix, bool) {
	rows, s, ok := cutNumber(s)
	if !ok || !strings.HasPrefix(s, "x") {
		return Matrix{}, false
	}
	columns, s, ok := cutNumber(s[1:])
	if !ok || !strings.HasPrefix(s, ":") {
		return Matrix{}, false
	}
	m := Matrix{Rows: rows, Columns: columns}
	for s = s[1:]; s != ""; {
		if s[0] != ' ' {
			return Matrix{}, false
		}
		var e int64
		e, s, ok = cutNumber(s[1:])
		if !ok {
			return Matrix{}, false
		}
		m.Entries = append(m.Entries, e)
	}
	return m, true
}

// cutNumber reads the number with which s begins, and returns it and the rest of s.
func cutNumber(s string) (int64, string, bool) {
	digits, negative := strings.CutPrefix(s, "-")
	value, n := int64(0), 0
	for n < len(digits) && digits[n] >= '0' && digits[n] <= '9' {
		if n == maxMatrixDigits {
			return 0, "", false
		}
		value = value*10 + int64(digits[n]-'0')
		n++
	}
	if n == 0 {
		return 0, "", false
	}
	if digits[0] == '0' && (n > 1 || negative) {
		return 0, "", false
	}
	if negative {
		value = -value
	}
	return value, digits[n:], true
}
