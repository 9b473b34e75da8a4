/-
  The contracts of package lex, all of them.
-/
import Derived.Test.YtlbnlflfoafioaaDoorLexZ7
