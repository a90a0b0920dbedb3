import Derived.Test.YtgnkpbgaoiaefaaGreatPb01
import Derived.Laws.AppendOwnNone
import Derived.SliceStrings
import Derived.SizedLaws
set_option maxRecDepth 100000
set_option maxHeartbeats 40000000
namespace Go.Proofs.YtgnkpbgaoiaefaaGreat
open Go.RowKit
theorem Tryz.info9:(Tryz.prog.info? 9).map (fun i=>(i.zero,i.size,i.bytes))=some (some (.string ⟨#[]⟩),1,16):=by kernel_rfl
def SSl (w:World) (A:Option Addr) (n c:Nat) (ps:List (List UInt8)):Prop:=
 ps.length=n∧n≤c∧c≤maxLen∧(0<n→∃b off,A=some ⟨b,off,none⟩∧b<w.heap.size∧∀j,j<n→w.cell? ⟨b,off+j,none⟩=some (.string (str (ps.getD j []))))
def txts (ps:List (List UInt8)):List Value:=ps.map fun p=>Value.string (str p)
theorem SSl.below {w w':World} {A:Option Addr} {n c:Nat} {ps:List (List UInt8)} (h:SSl w A n c ps) (hb:Below w.heap.size w w'):SSl w' A n c ps:=
 ⟨h.1,h.2.1,h.2.2.1,fun hn=>by
   obtain ⟨b,off,e,hl,hc⟩:=h.2.2.2 hn
   exact ⟨b,off,e,Nat.lt_of_lt_of_le hl hb.size,fun j hj=>(hb.cell (p:=⟨b,off+j,none⟩) hl).trans (hc j hj)⟩⟩
theorem SSl.of_own {w:World} {A:Option Addr} {n c B:Nat} {e:TypeId} {ps:List (List UInt8)} (h:w.ownsRow B e 1 (.slice A n c) n (txts ps)):SSl w A n c ps:=by
 have hl:=h.1;rw [txts,List.length_map,Nat.mul_one] at hl
 rcases h.2 with ⟨hv,hn⟩|⟨g,cap,cur,hv,hB,hh,hnc,hm,_⟩
 · injection hv with h1 h2 h3
   subst h1 h3 hn;exact ⟨hl,Nat.le_refl _,Nat.zero_le _,fun h=>absurd h (by omega)⟩
 · injection hv with h1 h2 h3
   subst h1 h3;refine ⟨hl,hnc,hm,fun hn=>⟨g,0,rfl,?_,fun j hj=>?_⟩⟩
   · rcases Nat.lt_or_ge g w.heap.size with h'|h'
     · exact h'
     · rw [Array.getElem?_eq_none h'] at hh;cases hh
   · have:=h.cells (g:=g) rfl j (.string (str (ps.getD j []))) (by simp [txts,List.getD,List.getElem?_eq_getElem (show j<ps.length by omega)])
     rw [←this]
     by_cases h0:j=0<;>simp [Addr.add,h0]
section
variable {w w':World} {A:Option Addr} {n c:Nat} {ps:List (List UInt8)}
theorem SSl.len (h:SSl w A n c ps):ps.length=n:=h.1
theorem SSl.le (h:SSl w A n c ps):n≤c:=h.2.1
theorem SSl.cap (h:SSl w A n c ps):c≤9223372036854775807:=by have:=h.2.2.1;unfold maxLen at this;omega
theorem SSl.at_ (h:SSl w A n c ps) (hn:0<n):∃b off,A=some ⟨b,off,none⟩∧b<w.heap.size∧∀j,j<n→w.cell? ⟨b,off+j,none⟩=some (.string (str (ps.getD j []))):=h.2.2.2 hn
theorem SSl.nil:SSl w none 0 0 []:=⟨rfl,Nat.le_refl _,Nat.zero_le _,fun h=>absurd h (by omega)⟩
theorem SSl.alloc (h:SSl w A n c ps) (o:Obj):SSl (w.alloc o) A n c ps:=h.below ((Below.refl _ _).alloc (Nat.le_refl _) o)
end
theorem txts_app (a b:List (List UInt8)):txts (a++b)=txts a++txts b:=by simp [txts]
theorem wpList_tapp {P:Program} {w0:World} {ops:Array Oper} {rest:List Oper} {o:Oper} {a:Act} {Q:Exit→Act→World→Prop} (hgd:o.guard=none) (s x:Operand) (t:TypeId)
 (ho:o.op=.call {callee:=.builtin .append,args:=#[s,x],argTypes:=#[t,t]})
 (base:Nat) (e:TypeId) (i:TypeInfo) (z:Value) (bytes:Nat) (ht:P.underlying t=some (.slice e)) (hi:P.info? e=some i) (hz:i.zero=some z)
 (hsize:i.size=1) (hby:i.bytes=bytes) (hzs:z.cells.size=1)
 (v:Value) (n:Nat) (ps:List (List UInt8)) (hs:a.eval s=v) (hown:w0.ownsRow base e 1 v n (txts ps))
 (p:List UInt8) (q:Nat) (hq:q=w0.heap.size) (hx:a.eval x=.slice (some ⟨q,0,none⟩) 1 1)
 (h63:n+1≤maxLen) (hbytes:(n+1) * bytes≤140737488355328) (hbase:base≤w0.heap.size)
 (h:∀v' w',w'.ownsRow base e 1 v' (n+1) (txts (ps++[p]))→(w0.alloc (.cells #[.string (str p)] e)).grownBy w' v.ownBlock→wpList P ops Q rest (a.put o.dst v') w'):wpList P ops Q (o :: rest) a (w0.alloc (.cells #[.string (str p)] e)):=by
 subst hq;refine wpList_append_own _ hgd s x t ho base e i z 1 bytes ht hi hz hsize hby hzs (by decide) v n (txts ps) hs (hown.alloc _) ⟨w0.heap.size,0,none⟩ 1 1 [.string (str p)] hx rfl ?_ (by simp [Value.oneCell']) h63 hbytes (by simp;omega) (fun v' w' h2 h3 _=>h v' w' (by rw [txts_app];exact h2) h3);intro j u hu
 match j with
 |0=>simp at hu;subst hu;simp [Addr.add]
 |j+1=>simp at hu
end Go.Proofs.YtgnkpbgaoiaefaaGreat
