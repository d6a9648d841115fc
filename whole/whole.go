// Package whole has just tests, of packages together: programs that may be, made by chance, and what has to be true of each of them.
package whole
