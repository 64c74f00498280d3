import Derived.Test.YtpjememmogaeiaaN
import Derived.Test.YtpjememmogaeiaaG
import Derived.Deep.RegionHeld3
namespace Go.Proofs.Ytpjememmogaeiaa
open Go Go.RowKit
attribute [local go_sem] World.cell?_alloc_some cell?_alloc2_some cell?_alloc3_some cell?_alloc4_some frozen?_alloc_some frozen?_alloc2_some frozen?_alloc3_some World.cell?_setCell_far new_ne0 new_ne1 new_ne2 new_ne3 lt2 lt3 lt4 lt5 lt6 lt7 lt8 lt9

theorem gok_swap (a b : Int) : gok b a = gok a b := by simp [gok, Bool.and_comm]
end Go.Proofs.Ytpjememmogaeiaa
