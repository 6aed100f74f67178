// Package passes has nothing but tests: of what the passes of the layers from 13 on promise alike.
package passes
