/- Chapter 14, plainly: the text of a list. -/
import Derived.Test.YtfdgehlobbeomaaDoorRows
import Derived.Test.YtfdgehlobbeomaaDoorPrioPlain
import Derived.Test.YtfdgehlobbeomaaDoorXmlPlain
import Derived.Test.YtfdgehlobbeomaaDoorEntRow
namespace Go.Proofs.YtfdgehlobbeomaaDoor
open Go.RowKit
set_option linter.unusedVariables false

def nUrlset : List UInt8 := [117, 114, 108, 115, 101, 116]
def nIndex : List UInt8 := [115, 105, 116, 101, 109, 97, 112, 105, 110, 100, 101, 120]
def nUrl : List UInt8 := [117, 114, 108]
def nSitemap : List UInt8 := [115, 105, 116, 101, 109, 97, 112]
def nLoc : List UInt8 := [108, 111, 99]
def nPrio : List UInt8 := [112, 114, 105, 111, 114, 105, 116, 121]
def rootN (b : Bool) : List UInt8 := if b = true then nIndex else nUrlset
def entN (b : Bool) : List UInt8 := if b = true then nSitemap else nUrl
/-- The text of one entry. -/
def entT (b : Bool) (e : EV) : List UInt8 := 60 :: (entN b ++ 62 :: 60 :: (nLoc ++ 62 :: (escL e.s.data.toList ++ 60 :: 47 :: (nLoc ++ 62 :: 60 :: (nPrio ++ 62 :: (prioT e.k ++ 60 :: 47 :: (nPrio ++ 62 :: 60 :: 47 :: (entN b ++ [62]))))))))
def entsT (b : Bool) (l : List EV) : List UInt8 := l.flatMap (entT b)
/-- The text of a list. -/
def mapT (b : Bool) (l : List EV) : List UInt8 := 60 :: (rootN b ++ 62 :: (entsT b l ++ 60 :: 47 :: (rootN b ++ [62])))
end Go.Proofs.YtfdgehlobbeomaaDoor
