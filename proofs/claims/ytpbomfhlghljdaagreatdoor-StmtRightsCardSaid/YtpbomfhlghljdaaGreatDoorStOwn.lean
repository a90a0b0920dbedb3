/- The contracts of package stmt. -/
import Derived.Test.YtpbomfhlghljdaaGreatDoorStReadAll
import Derived.Test.YtpbomfhlghljdaaGreatDoorStSame
import Derived.Test.YtpbomfhlghljdaaGreatDoorStRt
import Derived.Test.YtpbomfhlghljdaaGreatDoorStRdC
import Derived.Test.YtpbomfhlghljdaaGreatDoorStRdN
namespace Go.Proofs.YtpbomfhlghljdaaGreatDoor
open Go.RowKit

/-- what the listed variables hold -/
structure LdS (w : World) : Prop where
  num : Lds w
  firsts : FsIs w
  space : Lib.TabIs Tryz.prog w "strings.asciiSpace" .u8 Lib.asciiSpaceTab
theorem LdS.below {w w' : World} (h : LdS w) (hb : Below w.heap.size w w') : LdS w' := ⟨h.num.below hb, h.firsts.below hb, tab_below h.space hb⟩
theorem rdL_no {ws : List (List UInt8)} {row : Int} (h : rdE ws row ≠ 0) : rdL ws row = LV.zero := by unfold rdL; rw [if_neg h]
theorem xread_any (A : Option Addr) (n c : Nat) (ws : List (List UInt8)) (row : Int) (w : World) (h : SSl w A n c ws) (hs : ∀ p ∈ ws, p.length ≤ 300) (hl : LdS w) :
    Calls Tryz.prog 7 #[.slice A n c, .int .i64 row] w (GotLine w (rdL ws row) (rdE ws row)) := by
  obtain ⟨e1, e2⟩ := cd_eq ws row
  have hlen := h.len
  by_cases h0 : n = 0
  · subst h0
    have hE : cdE ws row = 22 := by unfold cdE; rw [if_pos (.inl (List.eq_nil_of_length_eq_zero hlen))]
    rw [hE] at e1
    rw [rdL_no (by rw [← e1]; decide), ← e1]
    exact cread_nil A c row w
  · by_cases hno : ptW ws = [] ∨ n ≠ 1 + (ptW ws).length
    · have hE : cdE ws row = 22 := by unfold cdE; rw [if_pos (.inr (by rw [hlen]; exact hno))]
      rw [hE] at e1
      rw [rdL_no (by rw [← e1]; decide), ← e1]
      exact cread_no A n c ws row w h hl.firsts (by omega) hno
    · have h1 : ptW ws ≠ [] := fun e => hno (.inl e)
      have h2 : n = 1 + (ptW ws).length := Decidable.of_not_not fun e => hno (.inr e)
      refine cread_run A n c ws row w h hs hl.num hl.firsts (ptW ws).length rfl (List.length_pos_iff.2 h1) h2 (rdE ws row) (rdL ws row) e1 ?_
      by_cases e : rdE ws row = 0
      · rw [if_pos e, e2 e]
      · rw [if_neg e, rdL_no e]
theorem xsame_any (L M : LV) (s1 s2 s3 s4 t1 t2 t3 t4 : SlV) (w : World) (h : LRead w L s1 s2 s3 s4) (g : LRead w M t1 t2 t3 t4) (_hL : LvOk L) (_hM : LvOk M) :
    Calls Tryz.prog 10 #[lineV L s1 s2 s3 s4, lineV M t1 t2 t3 t4] w fun e w' => e = .returned (.bool (sameB L M)) ∧ Below w.heap.size w w' := csame_any L M s1 s2 s3 s4 t1 t2 t3 t4 w h g
theorem xcopy_any (L : LV) (s1 s2 s3 s4 : SlV) (w : World) (h : LRead w L s1 s2 s3 s4) (hL : LvOk L) :
    Calls Tryz.prog 11 #[lineV L s1 s2 s3 s4] w fun e w' => ∃ t1 t2 t3 t4, e = .returned (lineV L t1 t2 t3 t4) ∧ LRead w' L t1 t2 t3 t4 ∧ Below w.heap.size w w' :=
  (copy_any L s1 s2 s3 s4 w h hL.sz).mono fun _ _ ⟨t1, t2, t3, t4, e, hr, _, hb⟩ => ⟨t1, t2, t3, t4, e, hr, hb⟩
theorem xright_any (L : LV) (s1 s2 s3 s4 : SlV) (w : World) (h : LRead w L s1 s2 s3 s4) (hL : LvOk L) (_hl : LdS w) :
    Calls Tryz.prog 12 #[lineV L s1 s2 s3 s4] w fun e w' => e = .returned (.bool (rgB L)) ∧ Below w.heap.size w w' := cright_any L s1 s2 s3 s4 w h hL
end Go.Proofs.YtpbomfhlghljdaaGreatDoor
