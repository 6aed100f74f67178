// Package passes has nothing but tests: of what all passes on functions in static single assignment form promise alike.
package passes
