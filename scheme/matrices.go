package scheme

import (
	"swage/integer"
	"swage/matrix"
	"swage/point"
)

// Left evaluates the first operand's parts: a row for each point.
func (s *Scheme) Left() matrix.Matrix {
	if s == nil {
		return matrix.Matrix{}
	}
	return s.powers(s.k1)
}

// Right evaluates the second operand's parts: a row for each point.
func (s *Scheme) Right() matrix.Matrix {
	if s == nil {
		return matrix.Matrix{}
	}
	return s.powers(s.k2)
}

// Full evaluates the product: a row for each point, and as many columns.
func (s *Scheme) Full() matrix.Matrix {
	if s == nil {
		return matrix.Matrix{}
	}
	return s.powers(len(s.points))
}

// powers is the matrix with a row for each point: k of its powers. New let in neither points nor counts that Powers or matrix.New refuses: so no error is asked.
func (s *Scheme) powers(k int) matrix.Matrix {
	rows := make([][]integer.Int, len(s.points))
	for i, p := range s.points {
		rows[i], _ = point.Powers(p, k)
	}
	m, _ := matrix.New(rows...)
	return m
}

// Det is the determinant of Full, by the points alone: the product of Det of each two, the later one first.
func (s *Scheme) Det() integer.Int {
	if s == nil {
		return integer.Int{}
	}
	var factors []integer.Int
	for j, q := range s.points {
		for _, p := range s.points[:j] {
			d, _ := point.Det(q, p) // refused of no point that is in
			factors = append(factors, integer.Of(int64(d)))
		}
	}
	return integer.Product(factors...)
}

// Inverse leads from the values of the product back to its coefficients: the matrix, and the number above 0 that all its numbers are over.
func (s *Scheme) Inverse() (matrix.Matrix, integer.Int) {
	w, d, _ := s.Full().Inverse() // flat is no scheme's matrix; none, of a nil one, has no inverse, and zeros are answered
	return w, d
}
