// Package rules has tests of what the document says of all functions: they are in rules_test.go.
package rules
