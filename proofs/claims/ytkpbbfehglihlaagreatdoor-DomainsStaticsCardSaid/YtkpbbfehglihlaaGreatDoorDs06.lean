import Derived.Test.YtkpbbfehglihlaaGreatDoorDs01
import Derived.Laws.AppendOwnNone
import Derived.SliceStrings
import Derived.SizedLaws
set_option maxRecDepth 100000
set_option maxHeartbeats 40000000
namespace Go.Proofs.YtkpbbfehglihlaaGreatDoor
open Go.RowKit
theorem Tryz.info9:(Tryz.prog.info? 9).map (fun i=>(i.zero,i.size,i.bytes))=some (some (.string ⟨#[]⟩),1,16):=by kernel_rfl
def SSl (w:World) (A:Option Addr) (n c:Nat) (ps:List (List UInt8)):Prop:=
 ps.length=n∧n≤c∧c≤maxLen∧(0<n→∃b off,A=some ⟨b,off,none⟩∧b<w.heap.size∧∀j,j<n→w.cell? ⟨b,off+j,none⟩=some (.string (str (ps.getD j []))))
def txts (ps:List (List UInt8)):List Value:=ps.map fun p=>Value.string (str p)
theorem SSl.below {w w':World} {A:Option Addr} {n c:Nat} {ps:List (List UInt8)} (h:SSl w A n c ps) (hb:Below w.heap.size w w'):SSl w' A n c ps:=
 ⟨h.1,h.2.1,h.2.2.1,fun hn=>by
   obtain ⟨b,off,e,hl,hc⟩:=h.2.2.2 hn
   exact ⟨b,off,e,Nat.lt_of_lt_of_le hl hb.size,fun j hj=>(hb.cell (p:=⟨b,off+j,none⟩) hl).trans (hc j hj)⟩⟩
theorem SSl.of_own {w:World} {A:Option Addr} {n c B:Nat} {e:TypeId} {ps:List (List UInt8)} (h:w.ownsRow B e 1 (.slice A n c) n (txts ps)):SSl w A n c ps:=by
 have hl:=h.1;rw [txts,List.length_map,Nat.mul_one] at hl
 rcases h.2 with ⟨hv,hn⟩|⟨g,cap,cur,hv,hB,hh,hnc,hm,_⟩
 · injection hv with h1 h2 h3
   subst h1 h3 hn;exact ⟨hl,Nat.le_refl _,Nat.zero_le _,fun h=>absurd h (by omega)⟩
 · injection hv with h1 h2 h3
   subst h1 h3;refine ⟨hl,hnc,hm,fun hn=>⟨g,0,rfl,?_,fun j hj=>?_⟩⟩
   · rcases Nat.lt_or_ge g w.heap.size with h'|h'
     · exact h'
     · rw [Array.getElem?_eq_none h'] at hh;cases hh
   · have:=h.cells (g:=g) rfl j (.string (str (ps.getD j []))) (by simp [txts,List.getD,List.getElem?_eq_getElem (show j<ps.length by omega)])
     rw [←this]
     by_cases h0:j=0<;>simp [Addr.add,h0]
section
variable {w w':World} {A:Option Addr} {n c:Nat} {ps:List (List UInt8)}
theorem SSl.len (h:SSl w A n c ps):ps.length=n:=h.1
theorem SSl.le (h:SSl w A n c ps):n≤c:=h.2.1
theorem SSl.cap (h:SSl w A n c ps):c≤9223372036854775807:=by have:=h.2.2.1;unfold maxLen at this;omega
theorem SSl.at_ (h:SSl w A n c ps) (hn:0<n):∃b off,A=some ⟨b,off,none⟩∧b<w.heap.size∧∀j,j<n→w.cell? ⟨b,off+j,none⟩=some (.string (str (ps.getD j []))):=h.2.2.2 hn
theorem SSl.alloc (h:SSl w A n c ps) (o:Obj):SSl (w.alloc o) A n c ps:=h.below ((Below.refl _ _).alloc (Nat.le_refl _) o)
end
end Go.Proofs.YtkpbbfehglihlaaGreatDoor
