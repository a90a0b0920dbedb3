/- What is beside an error: zero, nothing. -/
import Derived.Test.YtjdejdkjngilaaaRows
namespace Go.Proofs.Ytjdejdkjngilaaa

/-- x where there is no error, else 0 -/
def oi (E x : Int) : Int := if E = 0 then x else 0
/-- l where there is no error, else nothing -/
def ol (E : Int) (l : List UInt8) : List UInt8 := if E = 0 then l else []
theorem oi_ok {x : Int} : oi 0 x = x := rfl
theorem ol_ok {l : List UInt8} : ol 0 l = l := rfl
theorem oi_no {E x : Int} (h : ¬ E = 0) : oi E x = 0 := by unfold oi; rw [if_neg h]
theorem ol_no {E : Int} {l : List UInt8} (h : ¬ E = 0) : ol E l = [] := by unfold ol; rw [if_neg h]
end Go.Proofs.Ytjdejdkjngilaaa
