// Package varint is layer 1: numbers as bytes, in the one form there is. See shared/doc/01-varint.md.
package varint

import "recension/api"

const (
	bits = 7         // of a digit
	more = 1 << bits // what is added to a digit that another one follows
	last = 8         // the index of a number's last possible byte: nine digits of seven bits are an int's 63
)

// Nat is n as digits to the base of 128, the lowest first.
func Nat(n int) (string, api.Errno) {
	if n < 0 {
		return "", api.ErrArg
	}
	return string(appendNat(nil, n)), api.OK
}

// Take takes a number that Nat put at the head of s.
func Take(s string) (n int, rest string, e api.Errno) {
	i := 0
digits:
	for {
		switch {
		case i == len(s):
			return 0, "", api.ErrShort
		case s[i] < more:
			break digits
		case i == last:
			return 0, "", api.ErrForm
		}
		n |= int(s[i]-more) << (bits * i)
		i++
	}
	if s[i] == 0 && i > 0 { // a digit too many: there is a shorter form
		return 0, "", api.ErrForm
	}
	return n | int(s[i])<<(bits*i), s[i+1:], api.OK
}

// Int is n, which may be below 0, as Nat of an even or an odd number.
func Int(n int) (string, api.Errno) {
	if n < -1<<62 || n > 1<<62-1 {
		return "", api.ErrArg
	}
	if n < 0 {
		return Nat(2*(-n-1) + 1) // -2n - 1, but -2n alone may be no int
	}
	return Nat(2 * n)
}

// TakeInt takes a number that Int put at the head of s.
func TakeInt(s string) (n int, rest string, e api.Errno) {
	m, rest, e := Take(s)
	if m%2 == 1 {
		return -(m / 2) - 1, rest, e
	}
	return m / 2, rest, e
}

// Bytes is t behind its length.
func Bytes(t string) string {
	return string(append(appendNat(nil, len(t)), t...))
}

// TakeBytes takes a text that Bytes put at the head of s.
func TakeBytes(s string) (t, rest string, e api.Errno) {
	n, rest, e := Take(s)
	if e != api.OK {
		return "", "", e
	}
	if n > len(rest) {
		return "", "", api.ErrShort
	}
	return rest[:n], rest[n:], api.OK
}

// Nats is the numbers of l behind how many they are.
func Nats(l []int) (string, api.Errno) {
	b := appendNat(nil, len(l))
	for _, n := range l {
		if n < 0 {
			return "", api.ErrArg
		}
		b = appendNat(b, n)
	}
	return string(b), api.OK
}

// TakeNats takes numbers that Nats put at the head of s.
func TakeNats(s string) (l []int, rest string, e api.Errno) {
	count, rest, e := Take(s)
	if e != api.OK {
		return nil, "", e
	}
	if count > len(rest) {
		return nil, "", api.ErrShort
	}
	for range count { // the list grows with what is read: no room is made for what is only told
		var n int
		n, rest, e = Take(rest)
		if e != api.OK {
			return nil, "", e
		}
		l = append(l, n)
	}
	return l, rest, api.OK
}

// appendNat puts the digits of n, which is not below 0, behind b.
func appendNat(b []byte, n int) []byte {
	for ; n >= more; n >>= bits {
		b = append(b, byte(n%more+more))
	}
	return append(b, byte(n))
}
