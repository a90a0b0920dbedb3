import Derived.Test.YtgmflecelnefcaaGreatOp21
import Derived.Test.YtgmflecelnefcaaGreatOp01
import Derived.Test.YtgmflecelnefcaaGreatOp42
import Derived.Test.YtgmflecelnefcaaGreatOp12
import Derived.Test.YtgmflecelnefcaaGreatOp34
import Derived.Test.YtgmflecelnefcaaGreatOp37
import Derived.Test.YtgmflecelnefcaaGreatOp04
import Derived.Test.YtgmflecelnefcaaGreatOp35
import Derived.Test.YtgmflecelnefcaaGreatOp25
import Derived.Test.YtgmflecelnefcaaGreatOp38
import Derived.Test.YtgmflecelnefcaaGreatOp39
import Derived.Lib.SliceRun
import Derived.Deep.CutBlock
import Derived.Deep.DeepCutAuto
set_option maxRecDepth 100000
set_option maxHeartbeats 40000000
namespace Go.Proofs.YtgmflecelnefcaaGreat
open Go.Lib (hid)
open Go.RowKit
def GotSl2 (k:IntKind) (xs:List Int) (w:World) (e:Ending) (w':World):Prop:=
 ∃t:SlV,e=.returned (.slice t.A t.n t.c)∧ISl w' k t.A t.n t.c xs∧Below w.heap.size w w'∧(∀ad,t.A=some ad→w.heap.size≤ad.block∧TyI w' ad.block)∧(t.A=none→t.c=0)
theorem own_c0 {w:World} {B:Nat} {T:TypeId} {A:Option Addr} {n c m:Nat} {vs:List Value} (h:w.ownsRow B T 1 (.slice A n c) m vs):A=none→c=0:=by
 intro e
 rcases h.2 with ⟨hv,_⟩|⟨g,cap,cur,hv,_⟩
 · injection hv
 · injection hv with e1
   rw [e] at e1
   cases e1
theorem clone2_int (s:SlV) (xs:List Int) (w:World) (h:ISl w .i64 s.A s.n s.c xs) (hz:xs.length≤1000000):
 Calls Tryz.prog 142 #[.slice s.A s.n s.c] w (GotSl2 .i64 xs w):=by
 obtain ⟨A,n,c⟩:=s;dsimp only at h ⊢;have hlen:=h.len
 have hn:n≤1000000:=by omega
 obtain ⟨i0,hi,hz0,hz1,hz2⟩:=info_parts Tryz.info3;have Hi:=hid hi;have Hz0:=hid hz0;have Hz1:=hid hz1;have Hz2:=hid hz2;clear hi hz0 hz1 hz2
 rcases A with _|ad
 · have hn0:n=0:=by
    rcases Nat.eq_zero_or_pos n with e|e
    · exact e
    · obtain ⟨b,off,e2,_⟩:=h.2.2.2 e;cases e2
   subst hn0;obtain rfl:xs=[]:=List.eq_nil_of_length_eq_zero hlen;clear h hlen hn
   have hq:=fun w=>Lib.run_eql_slice_nil (P:=Tryz.prog) w 34 3 none 0 c 0 0 Tryz.underlying34
   go_enter Tryz.func142,Tryz.ntmps142
   go_wp2;go_ret;exact ⟨SlV.nil,rfl,ISl.nil,Below.refl _ _,(fun ad e=>by cases e),fun _=>rfl⟩
 · have HS:=hid h
   clear h
   have hq:=fun w=>Lib.run_eql_slice_nil (P:=Tryz.prog) w 34 3 (some ad) n c 0 0 Tryz.underlying34
   go_enter Tryz.func142,Tryz.ntmps142
   go_wp2_with (at_builtin;refine wpList_append_own _ rfl (.tmp 5) (.tmp 6) 34 rfl w.heap.size 3 i0 (.int .i64 0) 1 8 Tryz.underlying34 Hi.out Hz0.out Hz1.out Hz2.out rfl (by decide) _ _ _ (by rfl) (own0_int w w.heap.size (Nat.le_refl _)) ad n c (xs.map (Value.int .i64)) (by rfl) (by rw [List.length_map,hlen,Nat.mul_one]) ((HS.out.alloc _).cells_) (by intro u hu;obtain ⟨z,_,rfl⟩:=List.mem_map.1 hu;rfl) (by unfold maxLen;omega) (by omega) (by simp) ?_;intro v2 w2 hown2 hgrow2 _;simp only [Nat.zero_add,List.nil_append] at hown2;have B2:=vDc ((Below.refl w.heap.size w).alloc (Nat.le_refl _) _) (own0_int w w.heap.size (Nat.le_refl _)) hgrow2)
   obtain ⟨A2,c2,rfl⟩:∃A2 c2,v2=.slice A2 n c2:=by
    rcases hown2.2 with ⟨hv,hn2⟩|⟨g,cap,cur,hv,_⟩
    · subst hn2;exact ⟨none,0,hv⟩
    · exact ⟨_,_,hv⟩
   go_ret;exact ⟨⟨A2,n,c2⟩,rfl,ISl.of_own hown2,B2,own_ty hown2 (.inl rfl),own_c0 hown2⟩
theorem clone2_uint32 (s:SlV) (xs:List Int) (w:World) (h:ISl w .u32 s.A s.n s.c xs) (hz:xs.length≤1000000):
 Calls Tryz.prog 143 #[.slice s.A s.n s.c] w (GotSl2 .u32 xs w):=by
 obtain ⟨A,n,c⟩:=s;dsimp only at h ⊢;have hlen:=h.len
 have hn:n≤1000000:=by omega
 obtain ⟨i0,hi,hz0,hz1,hz2⟩:=info_parts Tryz.info33;have Hi:=hid hi;have Hz0:=hid hz0;have Hz1:=hid hz1;have Hz2:=hid hz2;clear hi hz0 hz1 hz2
 rcases A with _|ad
 · have hn0:n=0:=by
    rcases Nat.eq_zero_or_pos n with e|e
    · exact e
    · obtain ⟨b,off,e2,_⟩:=h.2.2.2 e;cases e2
   subst hn0;obtain rfl:xs=[]:=List.eq_nil_of_length_eq_zero hlen;clear h hlen hn
   have hq:=fun w=>Lib.run_eql_slice_nil (P:=Tryz.prog) w 35 33 none 0 c 0 0 Tryz.underlying35
   go_enter Tryz.func143,Tryz.ntmps143
   go_wp2;go_ret;exact ⟨SlV.nil,rfl,ISl.nil,Below.refl _ _,(fun ad e=>by cases e),fun _=>rfl⟩
 · have HS:=hid h
   clear h
   have hq:=fun w=>Lib.run_eql_slice_nil (P:=Tryz.prog) w 35 33 (some ad) n c 0 0 Tryz.underlying35
   go_enter Tryz.func143,Tryz.ntmps143
   go_wp2_with (at_builtin;refine wpList_append_own _ rfl (.tmp 5) (.tmp 6) 35 rfl w.heap.size 33 i0 (.int .u32 0) 1 4 Tryz.underlying35 Hi.out Hz0.out Hz1.out Hz2.out rfl (by decide) _ _ _ (by rfl) (own0_uint32 w w.heap.size (Nat.le_refl _)) ad n c (xs.map (Value.int .u32)) (by rfl) (by rw [List.length_map,hlen,Nat.mul_one]) ((HS.out.alloc _).cells_) (by intro u hu;obtain ⟨z,_,rfl⟩:=List.mem_map.1 hu;rfl) (by unfold maxLen;omega) (by omega) (by simp) ?_;intro v2 w2 hown2 hgrow2 _;simp only [Nat.zero_add,List.nil_append] at hown2;have B2:=vDc ((Below.refl w.heap.size w).alloc (Nat.le_refl _) _) (own0_uint32 w w.heap.size (Nat.le_refl _)) hgrow2)
   obtain ⟨A2,c2,rfl⟩:∃A2 c2,v2=.slice A2 n c2:=by
    rcases hown2.2 with ⟨hv,hn2⟩|⟨g,cap,cur,hv,_⟩
    · subst hn2;exact ⟨none,0,hv⟩
    · exact ⟨_,_,hv⟩
   go_ret;exact ⟨⟨A2,n,c2⟩,rfl,ISl.of_own hown2,B2,own_ty hown2 (.inr rfl),own_c0 hown2⟩
structure ClS2 (w:World) (L:LV) (k:Nat) (t:Nat→SlV) (wr:World):Prop where
 rd:∀j,j<3→ISl wr .i64 (t j).A (t j).n (t j).c (llist L j)
 off:∀j,j<3→∀ad,(t j).A=some ad→0<(t j).n→ad.block≠w.heap.size
 own:∀j,j<k→∀ad,(t j).A=some ad→w.heap.size+2≤ad.block∧TyI wr ad.block
 nil0:∀j,j<k→(t j).A=none→(t j).c=0
theorem ClS2.keep {w wr w2:World} {L:LV} {k:Nat} {t:Nat→SlV} (h:ClS2 w L k t wr) (hb:Below wr.heap.size wr w2):ClS2 w L k t w2:=⟨fun j hj=>(h.rd j hj).below hb,h.off,fun j hj ad e=>⟨(h.own j hj ad e).1,(h.own j hj ad e).2.below hb⟩,h.nil0⟩
theorem ClS2.next {w wr w2:World} {L:LV} {k:Nat} {t:Nat→SlV} {u:SlV} (h:ClS2 w L k t wr) (hb:Below wr.heap.size wr w2) (hu:ISl w2 .i64 u.A u.n u.c (llist L k)) (ho:∀ad,u.A=some ad→w.heap.size+2≤ad.block∧TyI w2 ad.block) (hz:u.A=none→u.c=0) (v:Value) (j:Nat):
 ClS2 w L (k+1) (fun i=>if i=k then u else t i) (w2.setCell ⟨w.heap.size,j,none⟩ v):=by
 refine ⟨fun i hi=>?_,fun i hi ad=>?_,fun i hi ad=>?_,fun i hi=>?_⟩
 · by_cases e:i=k
   · subst e
     simp only [if_true];exact hu.setOff2 (fun ad h _=>by have:=(ho ad h).1;omega)
   · simp only [if_neg e]
     exact ((h.rd i hi).below hb).setOff2 (h.off i hi)
 · by_cases e:i=k
   · simp only [if_pos e];intro h _;have:=(ho ad h).1;omega
   · simp only [if_neg e];exact h.off i hi ad
 · by_cases e:i=k
   · simp only [if_pos e];intro h;have h1:=(ho ad h).1;exact ⟨h1,(ho ad h).2.same (Below.heap_setCell _ _ _ _ (by simp;omega))⟩
   · simp only [if_neg e];intro h2;have h1:=(h.own i (by omega) ad h2).1;exact ⟨h1,((h.own i (by omega) ad h2).2.below hb).same (Below.heap_setCell _ _ _ _ (by simp;omega))⟩
 · by_cases e:i=k
   · simp only [if_pos e];exact hz
   · simp only [if_neg e];exact h.nil0 i (by omega)
theorem CopyS.lists2 {w wr:World} {L:LV} {s1 s2 s3 s4:SlV} (h:CopyS w L s1 s2 s3 s4 wr) (g:LRead w L s1 s2 s3 s4) (ho:∀j,j<3→∀ad,(lsl s1 s2 s3 j).A=some ad→0<(lsl s1 s2 s3 j).n→ad.block≠w.heap.size):ClS2 w L 0 (lsl s1 s2 s3) wr:=by
 refine ⟨fun j hj=>?_,ho,(fun j hj=>absurd hj (by omega)),fun j hj=>absurd hj (by omega)⟩
 match j,hj with
 |0,_=>exact g.1.below h.bel
 |1,_=>exact g.2.1.below h.bel
 |2,_=>exact g.2.2.1.below h.bel
 |j+3,h=>exact absurd h (by omega)
def GotCpZ (L:LV) (w:World) (e:Ending) (w':World):Prop:=
 ∃t1 t2 t3 t4,e=.returned (vAv L t1 t2 t3 t4)∧LRead w' L t1 t2 t3 t4∧LNew w.heap.size t1 t2 t3 t4∧LTy w' t1 t2 t3 t4∧((t1.A=none→t1.c=0)∧(t2.A=none→t2.c=0)∧(t3.A=none→t3.c=0)∧(t4.A=none→t4.c=0))∧Below w.heap.size w w'
theorem copy_nil (L:LV) (s1 s2 s3 s4:SlV) (w:World) (h:LRead w L s1 s2 s3 s4) (hz:LvSz L):
 Calls Tryz.prog 88 #[vAv L s1 s2 s3 s4] w (GotCpZ L w):=by
 have H:=hid h;have Z:=hid hz;clear h hz;have P0:=hid (fun T=>vCs w L s1 s2 s3 s4 T);unfold vAv
 go_enter Tryz.func88,Tryz.ntmps88
 go_wp2
 go_loopw [14] (fun i wr=>∃k:Nat,k≤5∧i=.int .i64 (k:Int)∧CopyS w L s1 s2 s3 s4 wr∧Ptrs wr (w.heap.size+1+1) 5 w.heap.size 2) (fun i _=>5 - (intOf i).toNat)
 case atStart=>
  refine ⟨0,by omega,rfl,⟨?_,?_,?_⟩,?_⟩
  · exact ((P0.out _).below (by omega) ((Below.refl _ _).alloc (Nat.le_refl _) _)).below (by omega) ((Below.refl _ _).alloc (Nat.le_refl _) _)
  · have:=zero_box (w.alloc (.cells (lA L s1 s2 s3 s4) 37)) 37
    rw [show (w.alloc _).heap.size=w.heap.size+1 by simp] at this;exact this.below (by omega) ((Below.refl _ _).alloc (Nat.le_refl _) _)
  · exact (((Below.refl _ _).alloc (Nat.le_refl _) _).alloc (by simp) _).alloc (by simp;omega) _
  · exact five_ptrs _ _ _ (by simp;omega) (by simp)
 case round=>
  obtain ⟨k,hk,rfl,S,P⟩:=hrel;have SS:=hid S;have PP:=hid P
  by_cases hlt:k<5
  · have c0:wr.cell? ⟨w.heap.size+1+1,k,none⟩=some (.pointer (some ⟨w.heap.size,2+k,none⟩)):=P.2.2 k hlt
    have c1:wr.cell? ⟨w.heap.size,2+k,none⟩=some (.string (str (ltx L k))):=by rw [S.p.cell (2+k) (by omega),lc_txt L s1 s2 s3 s4 k hlt]
    have C:=hid (fun w=>tclone_any (ltx L k) w (ltx_len Z.out k));have E:=hid (lc_txt L s1 s2 s3 s4 k hlt);clear S P;generalize ltx L k=x at *;go_wp2_with (go_at_call 141;refine (C.out _).mono ?_;rintro e w1 ⟨rfl,hb1⟩;have S1:=hid (SS.out.keep hb1);have P1:=hid (PP.out.keep hb1);have c2:w1.cell? ⟨w.heap.size,2+k,none⟩=some (.string (str x)):=(by rw [S1.out.p.cell (2+k) (by omega),E.out]);have f2:w1.frozen? ⟨w.heap.size,2+k,none⟩=false:=S1.out.p.2 _)
    have S2:=hid (show CopyS w L s1 s2 s3 s4 (w1.setCell ⟨w.heap.size,2+k,none⟩ (.string (str x))) by
     have:=S1.out.same (2+k) (by omega)
     rw [E.out] at this
     exact this)
    have P2:=hid (P1.out.set (j:=2+k) (v:=.string (str x)))
    go_roundw
    case rel=>exact ⟨k+1,by omega,by go_num,S2.out,P2.out⟩
    case measure=>simp [intOf];omega
  · obtain rfl:k=5:=by omega
    rw [show ((5:Nat):Int)=5 from rfl];obtain ⟨g,hg⟩:∃g,wr.heap.size=g:=⟨_,rfl⟩;have G:=hid (show w.heap.size+2≤g by have:=P.2.1;omega)
    have T0:=hid (show ∀j,j<3→∀ad,(lsl s1 s2 s3 j).A=some ad→0<(lsl s1 s2 s3 j).n→ad.block≠w.heap.size from fun j hj ad h hn=>by
     have key:∀(k:IntKind) (s:SlV) (xs:List Int),ISl w k s.A s.n s.c xs→s.A=some ad→0<s.n→ad.block≠w.heap.size:=fun k s xs hi he hn=>by
      obtain ⟨b,off,e2,hb,_⟩:=hi.2.2.2 hn;rw [he] at e2
      cases e2
      exact Nat.ne_of_lt hb
     match j,hj with
     |0,_=>exact key _ _ _ H.out.1 h hn
     |1,_=>exact key _ _ _ H.out.2.1 h hn
     |2,_=>exact key _ _ _ H.out.2.2.1 h hn
     |j+3,h=>exact absurd h (by omega))
    have A0:=hid (SS.out.keep ((Below.refl wr.heap.size wr).alloc (Nat.le_refl _) (.cells #[.pointer (some ⟨w.heap.size,13,none⟩),.pointer (some ⟨w.heap.size,14,none⟩),.pointer (some ⟨w.heap.size,15,none⟩)] 170)));have A1:=hid (three_ptrs (w:=wr) g w.heap.size 170 (by have:=G.out;omega) hg);clear S P;go_wp2;clear hg
    go_loopw [30] (fun i wq=>∃(k:Nat) (t:Nat→SlV),k≤3∧i=.int .i64 (k:Int)∧CopyS w L (t 0) (t 1) (t 2) s4 wq∧Ptrs wq g 3 w.heap.size 13∧ClS2 w L k t wq) (fun i _=>3 - (intOf i).toNat)
    case atStart=>exact ⟨0,lsl s1 s2 s3,by omega,rfl,A0.out,A1.out,A0.out.lists2 H.out T0.out⟩
    case round=>
     obtain ⟨k,t,hk,rfl,S,P,T⟩:=hrel;have SS2:=hid S;have PP2:=hid P;have TT:=hid T
     by_cases hlt:k<3
     · have c0:wr.cell? ⟨g,k,none⟩=some (.pointer (some ⟨w.heap.size,13+k,none⟩)):=P.2.2 k hlt
       have c1:wr.cell? ⟨w.heap.size,13+k,none⟩=some (.slice (t k).A (t k).n (t k).c):=by rw [S.p.cell (13+k) (by omega),lc_sl _ _ _ _ _ k hlt,lsl_eta t k hlt]
       have C:=hid (fun w h=>clone2_int (t k) (llist L k) w h (llist_len Z.out k));have TK:=hid (T.rd k hlt);clear S P T;obtain ⟨u,hu⟩:∃u,t k=u:=⟨_,rfl⟩;rw [hu] at c1 C TK;obtain ⟨uA,un,uc⟩:=u;clear hu;dsimp only at c1 TK C;have WQ:=hid (show g<wr.heap.size from PP2.out.2.1);go_wp2_with (go_at_call 142;refine (C.out _ TK.out).mono ?_;rintro e w1 ⟨v,rfl,hv,hb1,hf,hz0⟩;have S1:=hid (SS2.out.keep hb1);have P1:=hid (PP2.out.keep hb1);have c2:w1.cell? ⟨w.heap.size,13+k,none⟩=some (.slice (t k).A (t k).n (t k).c):=(by rw [S1.out.p.cell (13+k) (by omega),lc_sl _ _ _ _ _ k hlt,lsl_eta t k hlt]);have f2:w1.frozen? ⟨w.heap.size,13+k,none⟩=false:=S1.out.p.2 _)
       have S2:=hid (S1.out.put (13+k) (.slice v.A v.n v.c) (by omega) (lc_next L t v s4 k hlt));have P2:=hid (P1.out.set (j:=13+k) (v:=.slice v.A v.n v.c));have T2:=hid (TT.out.next hb1 hv (fun ad h=>⟨by have:=(hf ad h).1;have:=WQ.out;have:=G.out;omega,(hf ad h).2⟩) hz0 (.slice v.A v.n v.c) (13+k))
       go_roundw
       case rel=>exact ⟨k+1,fun i=>if i=k then v else t i,by omega,by go_num,S2.out,P2.out,T2.out⟩
       case measure=>simp [intOf];omega
     · obtain rfl:k=3:=by omega
       have c1:wr.cell? ⟨w.heap.size,16,none⟩=some (.slice s4.A s4.n s4.c):=S.p.cell 16 (by omega);have C:=hid (fun w h=>clone2_uint32 s4 L.addrs w h Z.out.lst.2.2.2);clear S P T;rw [show ((3:Nat):Int)=3 from rfl]
       go_wp2_with (first
        |(go_at_call 143;refine (C.out _ (H.out.2.2.2.below SS2.out.bel)).mono ?_;rintro e w1 ⟨v,rfl,hv,hb1,hf,hz0⟩;have S1:=hid (SS2.out.keep hb1);have c2:w1.cell? ⟨w.heap.size,16,none⟩=some (.slice s4.A s4.n s4.c):=S1.out.p.cell 16 (by omega);have f2:w1.frozen? ⟨w.heap.size,16,none⟩=false:=S1.out.p.2 _)
        |((with_reducible refine wpList_moveline ?hg1 (.tmp 1) ?ho1 w.heap.size ?hx1 L (t 0) (t 1) (t 2) v ?hb1 ?hg2 (.tmp 2) (.tmp 45) ?ho2 (w.heap.size+1) ?hx2 ?hy (lc LV.zero SlV.nil SlV.nil SlV.nil SlV.nil) ?hb2 ?_);(case hg1=>rfl);(case ho1=>rfl);(case hx1=>rfl);(case hg2=>rfl);(case ho2=>rfl);(case hx2=>rfl);(case hy=>rfl);(case hb1=>exact (S1.out.put 16 (.slice v.A v.n v.c) (by omega) (lc_last L (t 0) (t 1) (t 2) s4 v)).p);(case hb2=>exact (S1.out.put 16 (.slice v.A v.n v.c) (by omega) (lc_last L (t 0) (t 1) (t 2) s4 v)).r);intro w9 b9 e9))
       have T1:=TT.out.keep hb1;have q0:=T1.own 0 (by omega);have q1:=T1.own 1 (by omega);have q2:=T1.own 2 (by omega)
       have o0:=fun ad h=>(q0 ad h).1
       have o1:=fun ad h=>(q1 ad h).1
       have o2:=fun ad h=>(q2 ad h).1
       have G2:=G.out;have P2:=PP2.out.2.1;have B2:=(S1.out.put 16 (.slice v.A v.n v.c) (by omega) (lc_last L (t 0) (t 1) (t 2) s4 v)).bel
       have key:∀(k:IntKind) (s:SlV) (xs:List Int),ISl w1 k s.A s.n s.c xs→(∀ad,s.A=some ad→w.heap.size+2≤ad.block)→ISl w9 k s.A s.n s.c xs:=fun k s xs hi ho=>
        ISl.exOff (hi.setOff2 (fun ad h _=>by have:=ho ad h;omega)) e9 (fun ad h=>by have:=ho ad h;omega)
       have o3:∀ad,v.A=some ad→w.heap.size+2≤ad.block:=fun ad h=>by have:=(hf ad h).1;omega
       have kt:∀b,w.heap.size+2≤b→TyI w1 b→TyI w9 b:=fun b hb h=>(h.same (w':=w1.setCell ⟨w.heap.size,16,none⟩ (.slice v.A v.n v.c)) (Below.heap_setCell _ _ _ _ (by simp;omega))).same (e9.2.2.2.2 b (by omega) (by simpa using h.lt))
       exact bodyPost_ret (v:=vAv L (t 0) (t 1) (t 2) v) (copy_results _ _ (w.heap.size+1) L (t 0) (t 1) (t 2) v rfl b9) rfl ⟨t 0,t 1,t 2,v,rfl,⟨key _ _ _ (T1.rd 0 (by omega)) o0,key _ _ _ (T1.rd 1 (by omega)) o1,key _ _ _ (T1.rd 2 (by omega)) o2,key _ _ _ hv o3⟩,
        ⟨fun ad h=>by have:=o0 ad h;omega,fun ad h=>by have:=o1 ad h;omega,fun ad h=>by have:=o2 ad h;omega,fun ad h=>by have:=o3 ad h;omega⟩,⟨fun ad h=>kt _ (q0 ad h).1 (q0 ad h).2,fun ad h=>kt _ (q1 ad h).1 (q1 ad h).2,fun ad h=>kt _ (q2 ad h).1 (q2 ad h).2,fun ad h=>kt _ (o3 ad h) (hf ad h).2⟩,⟨T1.nil0 0 (by omega),T1.nil0 1 (by omega),T1.nil0 2 (by omega),hz0⟩,Below.ex B2 e9 (by omega) (by have:=B2.size;exact this)⟩
theorem isl_own {w:World} {k:IntKind} {B:Nat} {A:Option Addr} {n c:Nat} {xs:List Int} (h:ISl w k A n c xs) (h1:∀ad,A=some ad→B≤ad.block) (h2:∀ad,A=some ad→TyI w ad.block) (h3:A=none→c=0):RSl (Rdr.int k) w (fun b=>B≤b∧TyI w b) A n c xs:=by
 refine ⟨h.1,h.2.1,h.2.2.1,h3,fun hn=>?_⟩;obtain ⟨b,off,e,hl,hc⟩:=h.2.2.2 hn;refine ⟨b,off,e,⟨h1 _ e,h2 _ e⟩,hl,fun j x hx=>⟨[.int k x],rfl,fun i v hv=>?_⟩⟩;have hj:j<xs.length:=(List.getElem?_eq_some_iff.1 hx).1
 have hi0:i=0:=by have:=(List.getElem?_eq_some_iff.1 hv).1;simp at this;omega
 subst hi0
 have hv2:v=.int k x:=by simpa using hv.symm
 subst hv2
 have:=hc j (by rw [←h.1];exact hj)
 rw [show xs.getD j 0=x by simp [List.getD,hx]] at this
 show w.cell? ⟨b,off+j * 1+0,none⟩=_
 rw [Nat.mul_one,Nat.add_zero];exact this
theorem RI.readB {α:Type} {R:Rdr α} {w:World} {B:Nat} {T:TypeId} {s:Sl3} {xs:List α} (h:RI R w B (fun _=>False) T s xs):RSl R w (fun b=>B≤b∧b<w.heap.size) s.A s.n s.c xs:=by
 obtain ⟨vs,h1,h2⟩:=h;obtain ⟨A,n,c⟩:=s
 rcases h1.2 with ⟨hv,hn⟩|⟨g,cap,cur,hv,hB,hh,hnc,hm,hs,ht⟩
 · injection hv with e1 e2 e3
   subst e1 e2 e3;exact ⟨hn,Nat.le_refl _,Nat.zero_le _,fun _=>rfl,fun h=>absurd h (Nat.lt_irrefl 0)⟩
 · injection hv with e1 e2 e3
   subst e1 e2 e3
   have hg:g<w.heap.size:=by
    rcases Nat.lt_or_ge g w.heap.size with h'|h'
    · exact h'
    · rw [Array.getElem?_eq_none h'] at hh;cases hh
   refine ⟨rfl,hnc,hm,fun e=>(by cases e),fun hn=>⟨g,0,rfl,⟨hB,hg⟩,hg,fun j x hx=>?_⟩⟩;obtain ⟨us,g1,g2⟩:=h2.at_ j x hx;refine ⟨us,R.keep g1 (fun _ _=>rfl) (fun b hb=>⟨hb.2.elim (fun f=>f.elim) (fun g=>g.1),hb.1⟩),fun i v hv=>?_⟩;have hi:=g2 i v hv;rw [←ht] at hi
   have hlt:j * R.n+i<xs.length * R.n:=by
    have:=(List.getElem?_eq_some_iff.1 hi).1
    rw [List.length_take] at this;omega
   rw [List.getElem?_take,if_pos hlt] at hi;rw [Nat.zero_add];simp only [World.cell?,hh];simpa using hi
theorem NOwn.readB {w:World} {B:Nat} {N:NV} {S:NSl3} (h:NOwn w B (fun _=>False) N S):NRead w (fun b=>B≤b∧b<w.heap.size) N S:=⟨h.dv.readB,h.pt.readB,h.lk.readB,h.dm.readB,h.st.readB,h.fl.readB,h.vr.readB,h.ir.readB⟩
def vCn (N:NV) (E:Int) (w:World) (e:Ending) (w':World):Prop:=∃U,e=.returned (.tuple #[vAm U,.int .i64 E])∧NRead w' (fun b=>w.heap.size≤b∧b<w'.heap.size) N U∧Below w.heap.size w w'
theorem vCh (w:World) (F:Nat→Prop):NRead w F NV.zero NSl3.nil:=⟨RSl.nil,RSl.nil,RSl.nil,RSl.nil,RSl.nil,RSl.nil,RSl.nil,RSl.nil⟩
def GotCo (N:NV) (w:World) (e:Ending) (w':World):Prop:=∃S,e=.returned (vAm S)∧NOwn w' w.heap.size (fun _=>False) N S∧Below w.heap.size w w'
theorem xncopy_co (N:NV) (S:NSl3) (w:World) (h:NRead w (vAp w) N S) (hs:NvSz N) (hm:NmSz N):Calls Tryz.prog 42 #[vAm S] w (GotCo N w):=(xncopy_own N S w h hs hm).mono fun _ _ g=>g.own
theorem lvk567 {L:LV} (hk:L.kind=5∨L.kind=6∨L.kind=7) (ht:L.dev.length≤1000000) (ha:0≤L.addr∧L.addr<4294967296) (hx:L.addrs.length≤1000000):LvK L:=by
 unfold LvK LvF
 rcases hk with k|k|k
 · rw [show pts L.kind true=[(0,0),(8,10)] by rw [k];rfl]
   intro f hf;simp only [List.map_cons,List.map_nil,List.mem_cons,List.not_mem_nil,or_false] at hf
   rcases hf with rfl|rfl
   · exact ⟨ht,vFc,vFn,vEm⟩
   · exact ⟨vIa,vFc,ha,vEm⟩
 · rw [show pts L.kind true=[(0,0),(4,7),(6,6)] by rw [k];rfl]
   intro f hf;simp only [List.map_cons,List.map_nil,List.mem_cons,List.not_mem_nil,or_false] at hf
   rcases hf with rfl|rfl|rfl
   · exact ⟨ht,vFc,vFn,vEm⟩
   · exact ⟨vIa,vFc,vFn,vEm⟩
   · exact ⟨vIa,vFc,vFn,vEm⟩
 · rw [show pts L.kind true=[(0,0),(6,6),(12,15)] by rw [k];rfl]
   intro f hf;simp only [List.map_cons,List.map_nil,List.mem_cons,List.not_mem_nil,or_false] at hf
   rcases hf with rfl|rfl|rfl
   · exact ⟨ht,vFc,vFn,vEm⟩
   · exact ⟨vIa,vFc,vFn,vEm⟩
   · exact ⟨vIa,vFc,vFn,⟨vEm.1,hx⟩⟩
theorem lvsz567 {L:LV} (h:rgB L=true) (hk:L.kind=5∨L.kind=6∨L.kind=7) (ha:0≤L.addr∧L.addr<4294967296) (hx:∀x∈L.addrs,0≤x∧x<4294967296):LvSz L:=by
 rcases hk with k|k|k
 · obtain ⟨s,a,e,g,_⟩:=rg_kd5 h k ha
   have:=nm_len g
   rw [e];exact ⟨⟨by show s.length≤1000000;omega,Nat.zero_le _,Nat.zero_le _,Nat.zero_le _,Nat.zero_le _⟩,Nat.zero_le _,Nat.zero_le _,Nat.zero_le _,Nat.zero_le _⟩
 · obtain ⟨s,v,a,e,g,_⟩:=rg_kd6 h k
   have:=nm_len g
   rw [e];exact ⟨⟨by show s.length≤1000000;omega,Nat.zero_le _,Nat.zero_le _,Nat.zero_le _,Nat.zero_le _⟩,Nat.zero_le _,Nat.zero_le _,Nat.zero_le _,Nat.zero_le _⟩
 · obtain ⟨s,a,xs,e,g,_,g2,_⟩:=rg_kd7 h k hx
   have:=nm_len g
   rw [e];unfold vBs at g2;rw [Bool.and_eq_true] at g2;have g3:=((vCd xs).1 g2.1).2.1;exact ⟨⟨by show s.length≤1000000;omega,Nat.zero_le _,Nat.zero_le _,Nat.zero_le _,Nat.zero_le _⟩,Nat.zero_le _,Nat.zero_le _,Nat.zero_le _,by show xs.length≤1000000;omega⟩
theorem pre_tb5 {w w1:World} {S:NSl3} {L:LV} {s1 s2 s3 s4:SlV} (e:((w.alloc (.cells (nA S) 31)).alloc (.cells (lA L s1 s2 s3 s4) 37)).alloc (.cells zA 31)=w1):TBx w1 w.heap.size 31 (vBk S):=by
 subst e;exact ((TBx.new w (nA S) 31).below (vAc _ _)).below (vAc _ _)
theorem BoxF.far {w w':World} {q n:Nat} {f:Nat→Value} (h:BoxF w q n f) (e:w'.heap[q]?=w.heap[q]?):BoxF w' q n f:=
 h.same (fun o=>by simp only [World.cell?,e]) (fun o=>by simp only [World.frozen?,e])
def GotOw (N:NV) (E:Int) (q B:Nat) (w:World) (e:Ending) (w':World):Prop:=∃U,e=.returned (.int .i64 E)∧TBx w' q 31 (vBk U)∧(E=0→NOwn w' B (fun _=>False) N U)∧Below q w w'∧∀b,q<b→b<B→w'.heap[b]?=w.heap[b]?
theorem vFw (tmps:Array Value) (W:World) (S:NSl3) (q:Nat) (E:Int) (h2:tmps[8]?.getD undef=.pointer (some ⟨q,0,none⟩)) (h5:tmps[9]?.getD undef=.int .i64 E) (hb:TBx W q 31 (vBk S)):
 (results Tryz.f29 tmps).run Tryz.prog W=.ok (.tuple #[vAm S,.int .i64 E]) W:=by
 have t0:=hb.cell 0 _ rfl;have t1:=hb.cell 1 _ rfl;have t2:=hb.cell 2 _ rfl;have t3:=hb.cell 3 _ rfl;have t4:=hb.cell 4 _ rfl;have t5:=hb.cell 5 _ rfl;have t6:=hb.cell 6 _ rfl;have t7:=hb.cell 7 _ rfl;clear hb;unfold vAm;simp [results,Tryz.results29,go_sem,h2,h5,t0,t1,t2,t3,t4,t5,t6,t7]
theorem oput_any (f:FuncId) (hcf:vAz Tryz.prog f) (k:Int) (hk:k=5∨k=6∨k=7) (N:NV) (S:NSl3) (L:LV) (s1 s2 s3 s4:SlV) (w:World) (h:NRead w (vAp w) N S) (hl:LRead w L s1 s2 s3 s4) (hz:NvSz N) (hm:NmSz N)
 (ht:L.dev.length≤1000000) (ha:0≤L.addr∧L.addr<4294967296) (hx:∀x∈L.addrs,0≤x∧x<4294967296) (hxl:L.addrs.length≤1000000) (RN:NV) (RE:Int)
 (hz0:RE≠0→RN=NV.zero) (hb:bgE N L k≠0→RE=bgE N L k)
 (hf:bgE N L k=0→∀(U:NSl3) (q B:Nat) (t1 t2 t3 t4:SlV) (w':World),NOwn w' B (fun _=>False) N U→q<B→B≤w'.heap.size→TBx w' q 31 (vBk U)→LRead w' L t1 t2 t3 t4→RSl (Rdr.int .u32) w' (InB w' B (fun _=>False)) t4.A t4.n t4.c L.addrs→Calls Tryz.prog f #[.pointer (some ⟨q,0,none⟩),.int .i64 (dvF N L.dev),vAv L t1 t2 t3 t4] w' (GotOw RN RE q B w')):
 Calls Tryz.prog 29 #[vAm S,vAv L s1 s2 s3 s4,.int .i64 k,.func (.func f) #[] #[]] w (vCn RN RE w):=by
 have UP:=hid (fun (w':World) (hb:Below w.heap.size w w')=>h.up hb);have UL:=hid (fun (w':World) (hb:Below w.heap.size w w')=>vAk hl hb)
 have RT:=fun (w':World) (hb:Below w.heap.size w w') (e:L.kind=k)=>cright_k L s1 s2 s3 s4 w' (vAk hl hb) (lvk567 (by rw [e];exact hk) ht ha hxl)
 have NR:=fun (w':World) (hb:Below w.heap.size w w')=>vDt N S w' (h.up hb) hz
 have CP:=fun (w':World) (hb:Below w.heap.size w w')=>xncopy_co N S w' (h.up hb) hz hm
 have CL:=hid (fun (w':World) (hb:Below w.heap.size w w') (g:rgB L=true) (e:L.kind=k)=>copy_nil L s1 s2 s3 s4 w' (vAk hl hb) (lvsz567 g (by rw [e];exact hk) ha hx));obtain ⟨rv,hrv⟩:∃v,rgB L=v:=⟨_,rfl⟩;obtain ⟨nv,hnv⟩:∃v,vHw N=v:=⟨_,rfl⟩;have FI:=hid (show vCk N L k=(decide (L.kind=k) && (rv && nv)) by unfold vCk;rw [hrv,hnv]);rw [hrv] at RT;rw [hnv] at NR;have RG:=hid hrv;unfold vAm at NR
 unfold GotCo vAm at CP;replace RT:=hid RT;replace NR:=hid NR;replace CP:=hid CP;have HB:=hid (fun (e:Int) (g:bgE N L k=e) (h0:e≠0)=>show RN=NV.zero∧RE=e from (fun r=>⟨hz0 (by rw [r];exact h0),r⟩) ((hb (by rw [g];exact h0)).trans g));have H0:=hid hz0;have HF:=hid hf;have CF:=hid hcf;have HT:=hid ht;have HZ:=hid hz;clear hz hm hrv hnv hz0 hb hf hcf ht ha hx hxl hk
 clear h hl;unfold vAm;rw [vBw]
 go_enter Tryz.func29,Tryz.ntmps29
 go_upto_region 1 with fail
 generalize hw1:World.alloc _ _=w1;obtain ⟨B1,NB,LB,ql1,RB⟩:=vDs (S:=S) (L:=L) (s1:=s1) (s2:=s2) (s3:=s3) (s4:=s4) hw1;have TB:=pre_tb5 (S:=S) (L:=L) (s1:=s1) (s2:=s2) (s3:=s3) (s4:=s4) hw1;replace TB:=hid TB;clear hw1;replace B1:=hid B1;replace NB:=hid NB;replace LB:=hid LB;replace RB:=hid RB
 have KN:=hid (show ∀wx,Below w1.heap.size w1 wx→NF wx w.heap.size S∧(wx.cell? ⟨w.heap.size+1,1,none⟩=some (.int .i64 L.kind)∧wx.cell? ⟨w.heap.size+1,2,none⟩=some (.string (str L.dev)))∧BoxF wx (w.heap.size+1) 17 (lc L s1 s2 s3 s4)∧NRead wx (vAp wx) N S∧LRead wx L s1 s2 s3 s4∧Below w.heap.size w wx from fun wx hx=>by
  have nb:=NB.out.below hx;have bx:=LB.out.below (by omega) hx;have b0:=B1.out.trans (hx.mono B1.out.size)
  exact ⟨⟨nb.c0,nb.c1,nb.c2,nb.c3,nb.c4,nb.c5,nb.c6,nb.c7⟩,⟨bx.cell 1 (by omega),bx.cell 2 (by omega)⟩,bx,UP.out _ b0,UL.out _ b0,b0⟩)
 have BS:=hid (Below.refl w1.heap.size w1);obtain ⟨⟨f0,f1,f2,f3,f4,f5,f6,f7⟩,⟨g1,g2⟩,lb_,_⟩:=KN.out w1 (Below.refl _ _)
 by_cases hk:L.kind=k
 rotate_left
 · have y0:(L.kind != k)=true:=by simpa using hk
   have EV:=hid (HB.out 2 (bg_2 (by rw [FI.out,decide_eq_false hk];rfl)).1 (by decide));have rb_:=RB.out.below BS.out;have rl_:=rb_.lt;obtain ⟨r0,z0,r1,z1,r2,z2,r3,z3,r4,z4,r5,z5,r6,z6,r7,z7⟩:=rb_.zero8;clear hk rb_;go_wp2;refine bodyPost_ret (vFw _ (st8 w1 (w.heap.size+2) NSl3.nil) NSl3.nil (w.heap.size+2) 2 rfl rfl ((RB.out.below BS.out).st8 NSl3.nil)) rfl ?_;rw [EV.out.1,EV.out.2];exact ⟨NSl3.nil,rfl,vCh _ _,Below.st8 (B1.out.trans (BS.out.mono B1.out.size)) (by omega) NSl3.nil⟩
 have y0:(L.kind != k)=false:=by simpa using hk
 have HK:=hid hk;replace FI:=hid (show vCk N L k=(rv && nv) by rw [FI.out,decide_eq_true hk];rfl);clear hk
 cases rv
 · have EV:=hid (HB.out 2 (bg_2 (by rw [FI.out];rfl)).1 (by decide))
   go_wp2_with (first
    |((with_reducible refine vAf ?hg (.tmp 5) ?ho (w.heap.size+1) ?hx L s1 s2 s3 s4 lb_ ?_);(case hg=>rfl);(case ho=>rfl);(case hx=>rfl))
    |(go_at_call 87;(with_reducible refine (RT.out _ B1.out HK.out).mono ?_);rintro e w2 ⟨rfl,b_⟩;have Y2:=hid b_;have X2:=hid (vAa B1.out b_);obtain ⟨⟨f0,f1,f2,f3,f4,f5,f6,f7⟩,⟨g1,g2⟩,lb_,_⟩:=KN.out _ Y2.out;have rb_:=RB.out.below Y2.out;have rl_:=rb_.lt;obtain ⟨r0,z0,r1,z1,r2,z2,r3,z3,r4,z4,r5,z5,r6,z6,r7,z7⟩:=rb_.zero8;clear b_ rb_))
   refine bodyPost_ret (vFw _ (st8 w2 (w.heap.size+2) NSl3.nil) NSl3.nil (w.heap.size+2) 2 rfl rfl ((RB.out.below Y2.out).st8 NSl3.nil)) rfl ?_;rw [EV.out.1,EV.out.2];exact ⟨NSl3.nil,rfl,vCh _ _,Below.st8 (B1.out.trans (Y2.out.mono B1.out.size)) (by omega) NSl3.nil⟩
 cases nv
 · have EV:=hid (HB.out 2 (bg_2 (by rw [FI.out];rfl)).1 (by decide))
   go_wp2_with (first
    |((with_reducible refine vAf ?hg (.tmp 5) ?ho (w.heap.size+1) ?hx L s1 s2 s3 s4 lb_ ?_);(case hg=>rfl);(case ho=>rfl);(case hx=>rfl))
    |(go_at_call 87;(with_reducible refine (RT.out _ B1.out HK.out).mono ?_);rintro e w2 ⟨rfl,b_⟩;have Y2:=hid b_;have X2:=hid (vAa B1.out b_);obtain ⟨⟨f0,f1,f2,f3,f4,f5,f6,f7⟩,⟨g1,g2⟩,lb_,_⟩:=KN.out _ Y2.out;clear b_)
    |(go_at_call 23;(with_reducible refine (NR.out _ X2.out).mono ?_);rintro e w3 ⟨rfl,b_⟩;have Y3:=hid (vAa Y2.out b_);have X3:=hid (vAa X2.out b_);obtain ⟨⟨f0,f1,f2,f3,f4,f5,f6,f7⟩,⟨g1,g2⟩,lb_,_⟩:=KN.out _ Y3.out;have rb_:=RB.out.below Y3.out;have rl_:=rb_.lt;obtain ⟨r0,z0,r1,z1,r2,z2,r3,z3,r4,z4,r5,z5,r6,z6,r7,z7⟩:=rb_.zero8;clear b_ rb_))
   refine bodyPost_ret (vFw _ (st8 w3 (w.heap.size+2) NSl3.nil) NSl3.nil (w.heap.size+2) 2 rfl rfl ((RB.out.below Y3.out).st8 NSl3.nil)) rfl ?_;rw [EV.out.1,EV.out.2];exact ⟨NSl3.nil,rfl,vCh _ _,Below.st8 (B1.out.trans (Y3.out.mono B1.out.size)) (by omega) NSl3.nil⟩
 have HV:=hid (show vCk N L k=true by rw [FI.out];rfl);have hn:=(vDm.1 HV.out).2.2
 have DV:=fun (w':World) (hb:Below w.heap.size w w')=>xndevice_any N S L.dev w' (UP.out w' hb) HZ.out hn (by have:=HT.out;omega)
 have DN:=hid (dv_neg (N:=N) (s:=L.dev));have B31:=hid (fun (g:dvF N L.dev<0)=>HB.out 31 (bg_31 HV.out g).1 (by decide));have BOK:=hid (fun (g:¬dvF N L.dev<0)=>(bg_ok HV.out g).1);clear hn HB FI;obtain ⟨D,hD⟩:∃D,dvF N L.dev=D:=⟨_,rfl⟩;have HF0:=HF.out;rw [hD] at DV DN B31 BOK HF0;replace HF:=hid HF0;clear HF0 hD;unfold vAm at DV;replace DV:=hid DV
 by_cases d0:D<0
 · have EV:=hid (B31.out d0)
   have y1:(D == -1)=true:=by simpa using DN.out d0
   clear d0
   go_wp2_with (first
    |((with_reducible refine vAf ?hg (.tmp 5) ?ho (w.heap.size+1) ?hx L s1 s2 s3 s4 lb_ ?_);(case hg=>rfl);(case ho=>rfl);(case hx=>rfl))
    |(go_at_call 87;(with_reducible refine (RT.out _ B1.out HK.out).mono ?_);rintro e w2 ⟨rfl,b_⟩;have Y2:=hid b_;have X2:=hid (vAa B1.out b_);obtain ⟨⟨f0,f1,f2,f3,f4,f5,f6,f7⟩,⟨g1,g2⟩,lb_,_⟩:=KN.out _ Y2.out;clear b_)
    |(go_at_call 23;(with_reducible refine (NR.out _ X2.out).mono ?_);rintro e w3 ⟨rfl,b_⟩;have Y3:=hid (vAa Y2.out b_);have X3:=hid (vAa X2.out b_);obtain ⟨⟨f0,f1,f2,f3,f4,f5,f6,f7⟩,⟨g1,g2⟩,lb_,_⟩:=KN.out _ Y3.out;clear b_)
    |(go_at_call 25;(with_reducible refine (DV.out _ X3.out).mono ?_);rintro e w4 ⟨rfl,b_⟩;have Y4:=hid (vAa Y3.out b_);have X4:=hid (vAa X3.out b_);obtain ⟨⟨f0,f1,f2,f3,f4,f5,f6,f7⟩,⟨g1,g2⟩,lb_,_⟩:=KN.out _ Y4.out;have rb_:=RB.out.below Y4.out;have rl_:=rb_.lt;obtain ⟨r0,z0,r1,z1,r2,z2,r3,z3,r4,z4,r5,z5,r6,z6,r7,z7⟩:=rb_.zero8;clear b_ rb_))
   refine bodyPost_ret (vFw _ (st8 w4 (w.heap.size+2) NSl3.nil) NSl3.nil (w.heap.size+2) 31 rfl rfl ((RB.out.below Y4.out).st8 NSl3.nil)) rfl ?_;rw [EV.out.1,EV.out.2];exact ⟨NSl3.nil,rfl,vCh _ _,Below.st8 (B1.out.trans (Y4.out.mono B1.out.size)) (by omega) NSl3.nil⟩
 have y1:(D == -1)=false:=by simp;omega
 have BK:=hid (BOK.out d0);clear d0 BOK B31 DN
 go_upto_region 6 with (first
  |((with_reducible refine vAf ?hg (.tmp 5) ?ho (w.heap.size+1) ?hx L s1 s2 s3 s4 lb_ ?_);(case hg=>rfl);(case ho=>rfl);(case hx=>rfl))
  |(go_at_call 87;(with_reducible refine (RT.out _ B1.out HK.out).mono ?_);rintro e w2 ⟨rfl,b_⟩;have Y2:=hid b_;have X2:=hid (vAa B1.out b_);obtain ⟨⟨f0,f1,f2,f3,f4,f5,f6,f7⟩,⟨g1,g2⟩,lb_,_⟩:=KN.out _ Y2.out;clear b_)
  |(go_at_call 23;(with_reducible refine (NR.out _ X2.out).mono ?_);rintro e w3 ⟨rfl,b_⟩;have Y3:=hid (vAa Y2.out b_);have X3:=hid (vAa X2.out b_);obtain ⟨⟨f0,f1,f2,f3,f4,f5,f6,f7⟩,⟨g1,g2⟩,lb_,_⟩:=KN.out _ Y3.out;clear b_)
  |(go_at_call 25;(with_reducible refine (DV.out _ X3.out).mono ?_);rintro e w4 ⟨rfl,b_⟩;have Y4:=hid (vAa Y3.out b_);have X4:=hid (vAa X3.out b_);obtain ⟨⟨f0,f1,f2,f3,f4,f5,f6,f7⟩,⟨g1,g2⟩,lb_,_⟩:=KN.out _ Y4.out;clear b_))
 clear f0 f1 f2 f3 f4 f5 f6 f7;have tb_:=TB.out.below Y4.out;have f0:=tb_.cell 0 (.slice S.dv.A S.dv.n S.dv.c) rfl;have z0:=tb_.live 0;have f1:=tb_.cell 1 (.slice S.pt.A S.pt.n S.pt.c) rfl;have z1:=tb_.live 1;have f2:=tb_.cell 2 (.slice S.lk.A S.lk.n S.lk.c) rfl;have z2:=tb_.live 2;have f3:=tb_.cell 3 (.slice S.dm.A S.dm.n S.dm.c) rfl;have z3:=tb_.live 3;have f4:=tb_.cell 4 (.slice S.st.A S.st.n S.st.c) rfl
 have z4:=tb_.live 4;have f5:=tb_.cell 5 (.slice S.fl.A S.fl.n S.fl.c) rfl;have z5:=tb_.live 5;have f6:=tb_.cell 6 (.slice S.vr.A S.vr.n S.vr.c) rfl;have z6:=tb_.live 6;have f7:=tb_.cell 7 (.slice S.ir.A S.ir.n S.ir.c) rfl;have z7:=tb_.live 7;have tl_:=tb_.lt;clear tb_
 go_upto_region 7 with (go_at_call 42;(with_reducible refine (CP.out _ X4.out).mono ?_);rintro e w5 ⟨U,rfl,hown,b_⟩;have OW:=hid hown;have Y5:=hid (vAa Y4.out b_);have X5:=hid (vAa X4.out b_);have B45:=hid b_.size;clear f0 f1 f2 f3 f4 f5 f6 f7 z0 z1 z2 z3 z4 z5 z6 z7 tl_;have tb_:=TB.out.below Y5.out;have f0:=tb_.cell 0 (.slice S.dv.A S.dv.n S.dv.c) rfl;have z0:=tb_.live 0;have f1:=tb_.cell 1 (.slice S.pt.A S.pt.n S.pt.c) rfl;have z1:=tb_.live 1;have f2:=tb_.cell 2 (.slice S.lk.A S.lk.n S.lk.c) rfl;have z2:=tb_.live 2;have f3:=tb_.cell 3 (.slice S.dm.A S.dm.n S.dm.c) rfl;have z3:=tb_.live 3;have f4:=tb_.cell 4 (.slice S.st.A S.st.n S.st.c) rfl;have z4:=tb_.live 4;have f5:=tb_.cell 5 (.slice S.fl.A S.fl.n S.fl.c) rfl;have z5:=tb_.live 5;have f6:=tb_.cell 6 (.slice S.vr.A S.vr.n S.vr.c) rfl;have z6:=tb_.live 6;have f7:=tb_.cell 7 (.slice S.ir.A S.ir.n S.ir.c) rfl;have z7:=tb_.live 7;have tl_:=tb_.lt;clear tb_;clear hown b_)
 clear f0 f1 f2 f3 f4 f5 f6 f7 z0 z1 z2 z3 z4 z5 z6 z7 tl_ g1 g2 lb_;generalize hw6:World.setCell _ _ _=w6;have hw6:st8 w5 w.heap.size U=w6:=hw6
 have far:∀b,b≠w.heap.size→w6.heap[b]?=w5.heap[b]?:=fun b hb=>by rw [←hw6];exact vAx _ _ _ hb
 have hs6:w6.heap.size=w5.heap.size:=by rw [←hw6];exact vBh _ _ _
 have LW:w.heap.size+2<w4.heap.size:=(RB.out.below Y4.out).lt;have l3:=B45.out;have O6:=hid (show NOwn w6 w4.heap.size (fun _=>False) N U from OW.out.far (q:=w.heap.size) (by rw [hs6];exact Nat.le_refl _) far (by omega) (fun f=>f.elim));have T6:=hid (show TBx w6 w.heap.size 31 (vBk U) by rw [←hw6];exact (TB.out.below Y5.out).st8 U);have R6:=hid (show TBx w6 (w.heap.size+2) 31 (vBk NSl3.nil) from (RB.out.below Y5.out).same (far _ (by omega)))
 have X6:=hid (show Below w.heap.size w w6 by rw [←hw6];exact Below.st8 X5.out (Nat.le_refl _) U);have L6:=hid (show BoxF w6 (w.heap.size+1) 17 (lc L s1 s2 s3 s4) from ((KN.out _ Y5.out).2.2.1).far (far _ (by omega)));have S46:=hid (show w4.heap.size≤w6.heap.size by rw [hs6];exact l3);have Q4:=hid LW;clear hw6 far hs6 LW l3 OW Y5 X5 B45;have lb_:=L6.out
 go_upto_region 8 with (first
  |((with_reducible refine vAf ?hg (.tmp 5) ?ho (w.heap.size+1) ?hx L s1 s2 s3 s4 lb_ ?_);(case hg=>rfl);(case ho=>rfl);(case hx=>rfl))
  |(go_at_call 88;(with_reducible refine (CL.out _ X6.out RG.out HK.out).mono ?_);rintro e w7 ⟨t1,t2,t3,t4,rfl,hlr,hnew,hty,hnil,hb_⟩;have LR:=hid hlr;have TG:=hid (isl_own hlr.2.2.2 hnew.2.2.2 hty.2.2.2 hnil.2.2.2);have T7:=hid (T6.out.below hb_);have R7:=hid (R6.out.below hb_);have O7:=hid (O6.out.up hb_);have X7:=hid (vAa X6.out hb_);have S67:=hid hb_.size;clear hlr hnew hty hnil hb_)
  |((rw [CF.out _ _]);(refine (HF.out BK.out U w.heap.size w4.heap.size t1 t2 t3 t4 _ O7.out (by have:=Q4.out;omega) (Nat.le_trans S46.out S67.out) T7.out LR.out (TG.out.keep (fun _ _=>rfl) (fun b hb=>⟨hb.2.lt,.inr ⟨Nat.le_trans S46.out hb.1,hb.2⟩⟩))).mono ?_);rintro e w8 ⟨U9,rfl,htb,hno,hbl,hsm⟩;have T8:=hid htb;have O8:=hid hno;have X8:=hid (X7.out.trans hbl);have R8:=hid (R7.out.same (hsm _ (by omega) Q4.out));clear htb hno hbl hsm))
 clear lb_;have rl_:=R8.out.lt
 by_cases he:RE=0
 rotate_left
 · have x1:(RE != 0)=true:=by simpa using he
   have EV:=hid (H0.out he);obtain ⟨r0,z0,r1,z1,r2,z2,r3,z3,r4,z4,r5,z5,r6,z6,r7,z7⟩:=R8.out.zero8;clear he;go_wp2;refine bodyPost_ret (vFw _ (st8 w8 (w.heap.size+2) NSl3.nil) NSl3.nil (w.heap.size+2) RE rfl rfl (R8.out.st8 NSl3.nil)) rfl ?_;rw [EV.out];exact ⟨NSl3.nil,rfl,vCh _ _,Below.st8 X8.out (by omega) NSl3.nil⟩
 have x1:(RE != 0)=false:=by simpa using he
 have O9:=hid (O8.out he);have tl_:=T8.out.lt;have t0:=T8.out.cell 0 (.slice U9.dv.A U9.dv.n U9.dv.c) rfl;have r0:=R8.out.cell 0 (.slice none 0 0) rfl;have z0:=R8.out.live 0;have t1:=T8.out.cell 1 (.slice U9.pt.A U9.pt.n U9.pt.c) rfl;have r1:=R8.out.cell 1 (.slice none 0 0) rfl;have z1:=R8.out.live 1;have t2:=T8.out.cell 2 (.slice U9.lk.A U9.lk.n U9.lk.c) rfl;have r2:=R8.out.cell 2 (.slice none 0 0) rfl
 have z2:=R8.out.live 2;have t3:=T8.out.cell 3 (.slice U9.dm.A U9.dm.n U9.dm.c) rfl;have r3:=R8.out.cell 3 (.slice none 0 0) rfl;have z3:=R8.out.live 3;have t4:=T8.out.cell 4 (.slice U9.st.A U9.st.n U9.st.c) rfl;have r4:=R8.out.cell 4 (.slice none 0 0) rfl;have z4:=R8.out.live 4;have t5:=T8.out.cell 5 (.slice U9.fl.A U9.fl.n U9.fl.c) rfl;have r5:=R8.out.cell 5 (.slice none 0 0) rfl;have z5:=R8.out.live 5
 have t6:=T8.out.cell 6 (.slice U9.vr.A U9.vr.n U9.vr.c) rfl;have r6:=R8.out.cell 6 (.slice none 0 0) rfl;have z6:=R8.out.live 6;have t7:=T8.out.cell 7 (.slice U9.ir.A U9.ir.n U9.ir.c) rfl;have r7:=R8.out.cell 7 (.slice none 0 0) rfl;have z7:=R8.out.live 7;subst he;go_wp2;refine bodyPost_ret (vFw _ (st8 w8 (w.heap.size+2) U9) U9 (w.heap.size+2) 0 rfl rfl (R8.out.st8 U9)) rfl ?_;have ON:=O9.out.far (w':=st8 w8 (w.heap.size+2) U9) (q:=w.heap.size+2) (by rw [vBh];exact Nat.le_refl _) (fun b hb=>vAx _ _ _ hb) Q4.out (fun g=>g)
 exact ⟨U9,rfl,ON.readB.keep (fun _ _=>rfl) (fun b g=>⟨by have:=Q4.out;have:=g.1;omega,g.2⟩),Below.st8 X8.out (by omega) U9⟩
end Go.Proofs.YtgmflecelnefcaaGreat
