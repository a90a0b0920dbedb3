import Derived.Test.YtgnkpbgaoiaefaaGreatPb32
import Derived.Test.YtgnkpbgaoiaefaaGreatPb01
import Derived.Test.YtgnkpbgaoiaefaaGreatPb16
import Derived.Lib.SliceRun
set_option maxRecDepth 100000
set_option maxHeartbeats 40000000
namespace Go.Proofs.YtgnkpbgaoiaefaaGreat
open Go.Lib (hid)
open Go.RowKit
def GotSl2 (k:IntKind) (xs:List Int) (w:World) (e:Ending) (w':World):Prop:=
 ∃t:SlV,e=.returned (.slice t.A t.n t.c)∧ISl w' k t.A t.n t.c xs∧Below w.heap.size w w'∧(∀ad,t.A=some ad→w.heap.size≤ad.block∧TyI w' ad.block)∧(t.A=none→t.c=0)
theorem own_c0 {w:World} {B:Nat} {T:TypeId} {A:Option Addr} {n c m:Nat} {vs:List Value} (h:w.ownsRow B T 1 (.slice A n c) m vs):A=none→c=0:=by
 intro e
 rcases h.2 with ⟨hv,_⟩|⟨g,cap,cur,hv,_⟩
 · injection hv
 · injection hv with e1
   rw [e] at e1
   cases e1
theorem clone2_int (s:SlV) (xs:List Int) (w:World) (h:ISl w .i64 s.A s.n s.c xs) (hz:xs.length≤1000000):
 Calls Tryz.prog 74 #[.slice s.A s.n s.c] w (GotSl2 .i64 xs w):=by
 obtain ⟨A,n,c⟩:=s;dsimp only at h ⊢;have hlen:=h.len
 have hn:n≤1000000:=by omega
 obtain ⟨i0,hi,hz0,hz1,hz2⟩:=info_parts Tryz.info3;have Hi:=hid hi;have Hz0:=hid hz0;have Hz1:=hid hz1;have Hz2:=hid hz2;clear hi hz0 hz1 hz2
 rcases A with _|ad
 · have hn0:n=0:=by
    rcases Nat.eq_zero_or_pos n with e|e
    · exact e
    · obtain ⟨b,off,e2,_⟩:=h.2.2.2 e;cases e2
   subst hn0;obtain rfl:xs=[]:=List.eq_nil_of_length_eq_zero hlen;clear h hlen hn
   have hq:=fun w=>Lib.run_eql_slice_nil (P:=Tryz.prog) w 34 3 none 0 c 0 0 Tryz.underlying34
   go_enter Tryz.func74,Tryz.ntmps74
   go_wp2;go_ret;exact ⟨SlV.nil,rfl,ISl.nil,Below.refl _ _,(fun ad e=>by cases e),fun _=>rfl⟩
 · have HS:=hid h
   clear h
   have hq:=fun w=>Lib.run_eql_slice_nil (P:=Tryz.prog) w 34 3 (some ad) n c 0 0 Tryz.underlying34
   go_enter Tryz.func74,Tryz.ntmps74
   go_wp2_with (at_builtin;refine wpList_append_own _ rfl (.tmp 5) (.tmp 6) 34 rfl w.heap.size 3 i0 (.int .i64 0) 1 8 Tryz.underlying34 Hi.out Hz0.out Hz1.out Hz2.out rfl (by decide) _ _ _ (by rfl) (own0_int w w.heap.size (Nat.le_refl _)) ad n c (xs.map (Value.int .i64)) (by rfl) (by rw [List.length_map,hlen,Nat.mul_one]) ((HS.out.alloc _).cells_) (by intro u hu;obtain ⟨z,_,rfl⟩:=List.mem_map.1 hu;rfl) (by unfold maxLen;omega) (by omega) (by simp) ?_;intro v2 w2 hown2 hgrow2 _;simp only [Nat.zero_add,List.nil_append] at hown2;have B2:=vDm ((Below.refl w.heap.size w).alloc (Nat.le_refl _) _) (own0_int w w.heap.size (Nat.le_refl _)) hgrow2)
   obtain ⟨A2,c2,rfl⟩:∃A2 c2,v2=.slice A2 n c2:=by
    rcases hown2.2 with ⟨hv,hn2⟩|⟨g,cap,cur,hv,_⟩
    · subst hn2;exact ⟨none,0,hv⟩
    · exact ⟨_,_,hv⟩
   go_ret;exact ⟨⟨A2,n,c2⟩,rfl,ISl.of_own hown2,B2,own_ty hown2 (.inl rfl),own_c0 hown2⟩
theorem clone2_uint32 (s:SlV) (xs:List Int) (w:World) (h:ISl w .u32 s.A s.n s.c xs) (hz:xs.length≤1000000):
 Calls Tryz.prog 75 #[.slice s.A s.n s.c] w (GotSl2 .u32 xs w):=by
 obtain ⟨A,n,c⟩:=s;dsimp only at h ⊢;have hlen:=h.len
 have hn:n≤1000000:=by omega
 obtain ⟨i0,hi,hz0,hz1,hz2⟩:=info_parts Tryz.info33;have Hi:=hid hi;have Hz0:=hid hz0;have Hz1:=hid hz1;have Hz2:=hid hz2;clear hi hz0 hz1 hz2
 rcases A with _|ad
 · have hn0:n=0:=by
    rcases Nat.eq_zero_or_pos n with e|e
    · exact e
    · obtain ⟨b,off,e2,_⟩:=h.2.2.2 e;cases e2
   subst hn0;obtain rfl:xs=[]:=List.eq_nil_of_length_eq_zero hlen;clear h hlen hn
   have hq:=fun w=>Lib.run_eql_slice_nil (P:=Tryz.prog) w 35 33 none 0 c 0 0 Tryz.underlying35
   go_enter Tryz.func75,Tryz.ntmps75
   go_wp2;go_ret;exact ⟨SlV.nil,rfl,ISl.nil,Below.refl _ _,(fun ad e=>by cases e),fun _=>rfl⟩
 · have HS:=hid h
   clear h
   have hq:=fun w=>Lib.run_eql_slice_nil (P:=Tryz.prog) w 35 33 (some ad) n c 0 0 Tryz.underlying35
   go_enter Tryz.func75,Tryz.ntmps75
   go_wp2_with (at_builtin;refine wpList_append_own _ rfl (.tmp 5) (.tmp 6) 35 rfl w.heap.size 33 i0 (.int .u32 0) 1 4 Tryz.underlying35 Hi.out Hz0.out Hz1.out Hz2.out rfl (by decide) _ _ _ (by rfl) (own0_uint32 w w.heap.size (Nat.le_refl _)) ad n c (xs.map (Value.int .u32)) (by rfl) (by rw [List.length_map,hlen,Nat.mul_one]) ((HS.out.alloc _).cells_) (by intro u hu;obtain ⟨z,_,rfl⟩:=List.mem_map.1 hu;rfl) (by unfold maxLen;omega) (by omega) (by simp) ?_;intro v2 w2 hown2 hgrow2 _;simp only [Nat.zero_add,List.nil_append] at hown2;have B2:=vDm ((Below.refl w.heap.size w).alloc (Nat.le_refl _) _) (own0_uint32 w w.heap.size (Nat.le_refl _)) hgrow2)
   obtain ⟨A2,c2,rfl⟩:∃A2 c2,v2=.slice A2 n c2:=by
    rcases hown2.2 with ⟨hv,hn2⟩|⟨g,cap,cur,hv,_⟩
    · subst hn2;exact ⟨none,0,hv⟩
    · exact ⟨_,_,hv⟩
   go_ret;exact ⟨⟨A2,n,c2⟩,rfl,ISl.of_own hown2,B2,own_ty hown2 (.inr rfl),own_c0 hown2⟩
structure ClS2 (w:World) (L:LV) (k:Nat) (t:Nat→SlV) (wr:World):Prop where
 rd:∀j,j<3→ISl wr .i64 (t j).A (t j).n (t j).c (llist L j)
 off:∀j,j<3→∀ad,(t j).A=some ad→0<(t j).n→ad.block≠w.heap.size
 own:∀j,j<k→∀ad,(t j).A=some ad→w.heap.size+2≤ad.block∧TyI wr ad.block
 nil0:∀j,j<k→(t j).A=none→(t j).c=0
theorem ClS2.keep {w wr w2:World} {L:LV} {k:Nat} {t:Nat→SlV} (h:ClS2 w L k t wr) (hb:Below wr.heap.size wr w2):ClS2 w L k t w2:=⟨fun j hj=>(h.rd j hj).below hb,h.off,fun j hj ad e=>⟨(h.own j hj ad e).1,(h.own j hj ad e).2.below hb⟩,h.nil0⟩
theorem ClS2.next {w wr w2:World} {L:LV} {k:Nat} {t:Nat→SlV} {u:SlV} (h:ClS2 w L k t wr) (hb:Below wr.heap.size wr w2) (hu:ISl w2 .i64 u.A u.n u.c (llist L k)) (ho:∀ad,u.A=some ad→w.heap.size+2≤ad.block∧TyI w2 ad.block) (hz:u.A=none→u.c=0) (v:Value) (j:Nat):
 ClS2 w L (k+1) (fun i=>if i=k then u else t i) (w2.setCell ⟨w.heap.size,j,none⟩ v):=by
 refine ⟨fun i hi=>?_,fun i hi ad=>?_,fun i hi ad=>?_,fun i hi=>?_⟩
 · by_cases e:i=k
   · subst e
     simp only [if_true];exact hu.setOff2 (fun ad h _=>by have:=(ho ad h).1;omega)
   · simp only [if_neg e]
     exact ((h.rd i hi).below hb).setOff2 (h.off i hi)
 · by_cases e:i=k
   · simp only [if_pos e];intro h _;have:=(ho ad h).1;omega
   · simp only [if_neg e];exact h.off i hi ad
 · by_cases e:i=k
   · simp only [if_pos e];intro h;have h1:=(ho ad h).1;exact ⟨h1,(ho ad h).2.same (Below.heap_setCell _ _ _ _ (by simp;omega))⟩
   · simp only [if_neg e];intro h2;have h1:=(h.own i (by omega) ad h2).1;exact ⟨h1,((h.own i (by omega) ad h2).2.below hb).same (Below.heap_setCell _ _ _ _ (by simp;omega))⟩
 · by_cases e:i=k
   · simp only [if_pos e];exact hz
   · simp only [if_neg e];exact h.nil0 i (by omega)
theorem CopyS.lists2 {w wr:World} {L:LV} {s1 s2 s3 s4:SlV} (h:CopyS w L s1 s2 s3 s4 wr) (g:LRead w L s1 s2 s3 s4) (ho:∀j,j<3→∀ad,(lsl s1 s2 s3 j).A=some ad→0<(lsl s1 s2 s3 j).n→ad.block≠w.heap.size):ClS2 w L 0 (lsl s1 s2 s3) wr:=by
 refine ⟨fun j hj=>?_,ho,(fun j hj=>absurd hj (by omega)),fun j hj=>absurd hj (by omega)⟩
 match j,hj with
 |0,_=>exact g.1.below h.bel
 |1,_=>exact g.2.1.below h.bel
 |2,_=>exact g.2.2.1.below h.bel
 |j+3,h=>exact absurd h (by omega)
def GotCpZ (L:LV) (w:World) (e:Ending) (w':World):Prop:=
 ∃t1 t2 t3 t4,e=.returned (vAw L t1 t2 t3 t4)∧LRead w' L t1 t2 t3 t4∧LNew w.heap.size t1 t2 t3 t4∧LTy w' t1 t2 t3 t4∧((t1.A=none→t1.c=0)∧(t2.A=none→t2.c=0)∧(t3.A=none→t3.c=0)∧(t4.A=none→t4.c=0))∧Below w.heap.size w w'
theorem copy_nil (L:LV) (s1 s2 s3 s4:SlV) (w:World) (h:LRead w L s1 s2 s3 s4) (hz:LvSz L):
 Calls Tryz.prog 27 #[vAw L s1 s2 s3 s4] w (GotCpZ L w):=by
 have H:=hid h;have Z:=hid hz;clear h hz;have P0:=hid (fun T=>vCc w L s1 s2 s3 s4 T);unfold vAw
 go_enter Tryz.func27,Tryz.ntmps27
 go_wp2
 go_loopw [14] (fun i wr=>∃k:Nat,k≤5∧i=.int .i64 (k:Int)∧CopyS w L s1 s2 s3 s4 wr∧Ptrs wr (w.heap.size+1+1) 5 w.heap.size 2) (fun i _=>5 - (intOf i).toNat)
 case atStart=>
  refine ⟨0,by omega,rfl,⟨?_,?_,?_⟩,?_⟩
  · exact ((P0.out _).below (by omega) ((Below.refl _ _).alloc (Nat.le_refl _) _)).below (by omega) ((Below.refl _ _).alloc (Nat.le_refl _) _)
  · have:=vBv (w.alloc (.cells (lA L s1 s2 s3 s4) 37)) 37
    rw [show (w.alloc _).heap.size=w.heap.size+1 by simp] at this;exact this.below (by omega) ((Below.refl _ _).alloc (Nat.le_refl _) _)
  · exact (((Below.refl _ _).alloc (Nat.le_refl _) _).alloc (by simp) _).alloc (by simp;omega) _
  · exact five_ptrs _ _ _ (by simp;omega) (by simp)
 case round=>
  obtain ⟨k,hk,rfl,S,P⟩:=hrel;have SS:=hid S;have PP:=hid P
  by_cases hlt:k<5
  · have c0:wr.cell? ⟨w.heap.size+1+1,k,none⟩=some (.pointer (some ⟨w.heap.size,2+k,none⟩)):=P.2.2 k hlt
    have c1:wr.cell? ⟨w.heap.size,2+k,none⟩=some (.string (str (ltx L k))):=by rw [S.p.cell (2+k) (by omega),lc_txt L s1 s2 s3 s4 k hlt]
    have C:=hid (fun w=>tclone_any (ltx L k) w (ltx_len Z.out k));have E:=hid (lc_txt L s1 s2 s3 s4 k hlt);clear S P;generalize ltx L k=x at *;go_wp2_with (go_at_call 73;refine (C.out _).mono ?_;rintro e w1 ⟨rfl,hb1⟩;have S1:=hid (SS.out.keep hb1);have P1:=hid (PP.out.keep hb1);have c2:w1.cell? ⟨w.heap.size,2+k,none⟩=some (.string (str x)):=(by rw [S1.out.p.cell (2+k) (by omega),E.out]);have f2:w1.frozen? ⟨w.heap.size,2+k,none⟩=false:=S1.out.p.2 _)
    have S2:=hid (show CopyS w L s1 s2 s3 s4 (w1.setCell ⟨w.heap.size,2+k,none⟩ (.string (str x))) by
     have:=S1.out.same (2+k) (by omega)
     rw [E.out] at this
     exact this)
    have P2:=hid (P1.out.set (j:=2+k) (v:=.string (str x)))
    go_roundw
    case rel=>exact ⟨k+1,by omega,by go_num,S2.out,P2.out⟩
    case measure=>simp [intOf];omega
  · obtain rfl:k=5:=by omega
    rw [show ((5:Nat):Int)=5 from rfl];obtain ⟨g,hg⟩:∃g,wr.heap.size=g:=⟨_,rfl⟩;have G:=hid (show w.heap.size+2≤g by have:=P.2.1;omega)
    have T0:=hid (show ∀j,j<3→∀ad,(lsl s1 s2 s3 j).A=some ad→0<(lsl s1 s2 s3 j).n→ad.block≠w.heap.size from fun j hj ad h hn=>by
     have key:∀(k:IntKind) (s:SlV) (xs:List Int),ISl w k s.A s.n s.c xs→s.A=some ad→0<s.n→ad.block≠w.heap.size:=fun k s xs hi he hn=>by
      obtain ⟨b,off,e2,hb,_⟩:=hi.2.2.2 hn;rw [he] at e2
      cases e2
      exact Nat.ne_of_lt hb
     match j,hj with
     |0,_=>exact key _ _ _ H.out.1 h hn
     |1,_=>exact key _ _ _ H.out.2.1 h hn
     |2,_=>exact key _ _ _ H.out.2.2.1 h hn
     |j+3,h=>exact absurd h (by omega))
    have A0:=hid (SS.out.keep ((Below.refl wr.heap.size wr).alloc (Nat.le_refl _) (.cells #[.pointer (some ⟨w.heap.size,13,none⟩),.pointer (some ⟨w.heap.size,14,none⟩),.pointer (some ⟨w.heap.size,15,none⟩)] 133)));have A1:=hid (three_ptrs (w:=wr) g w.heap.size 133 (by have:=G.out;omega) hg);clear S P;go_wp2;clear hg
    go_loopw [30] (fun i wq=>∃(k:Nat) (t:Nat→SlV),k≤3∧i=.int .i64 (k:Int)∧CopyS w L (t 0) (t 1) (t 2) s4 wq∧Ptrs wq g 3 w.heap.size 13∧ClS2 w L k t wq) (fun i _=>3 - (intOf i).toNat)
    case atStart=>exact ⟨0,lsl s1 s2 s3,by omega,rfl,A0.out,A1.out,A0.out.lists2 H.out T0.out⟩
    case round=>
     obtain ⟨k,t,hk,rfl,S,P,T⟩:=hrel;have SS2:=hid S;have PP2:=hid P;have TT:=hid T
     by_cases hlt:k<3
     · have c0:wr.cell? ⟨g,k,none⟩=some (.pointer (some ⟨w.heap.size,13+k,none⟩)):=P.2.2 k hlt
       have c1:wr.cell? ⟨w.heap.size,13+k,none⟩=some (.slice (t k).A (t k).n (t k).c):=by rw [S.p.cell (13+k) (by omega),lc_sl _ _ _ _ _ k hlt,lsl_eta t k hlt]
       have C:=hid (fun w h=>clone2_int (t k) (llist L k) w h (llist_len Z.out k));have TK:=hid (T.rd k hlt);clear S P T;obtain ⟨u,hu⟩:∃u,t k=u:=⟨_,rfl⟩;rw [hu] at c1 C TK;obtain ⟨uA,un,uc⟩:=u;clear hu;dsimp only at c1 TK C;have WQ:=hid (show g<wr.heap.size from PP2.out.2.1);go_wp2_with (go_at_call 74;refine (C.out _ TK.out).mono ?_;rintro e w1 ⟨v,rfl,hv,hb1,hf,hz0⟩;have S1:=hid (SS2.out.keep hb1);have P1:=hid (PP2.out.keep hb1);have c2:w1.cell? ⟨w.heap.size,13+k,none⟩=some (.slice (t k).A (t k).n (t k).c):=(by rw [S1.out.p.cell (13+k) (by omega),lc_sl _ _ _ _ _ k hlt,lsl_eta t k hlt]);have f2:w1.frozen? ⟨w.heap.size,13+k,none⟩=false:=S1.out.p.2 _)
       have S2:=hid (S1.out.put (13+k) (.slice v.A v.n v.c) (by omega) (lc_next L t v s4 k hlt));have P2:=hid (P1.out.set (j:=13+k) (v:=.slice v.A v.n v.c));have T2:=hid (TT.out.next hb1 hv (fun ad h=>⟨by have:=(hf ad h).1;have:=WQ.out;have:=G.out;omega,(hf ad h).2⟩) hz0 (.slice v.A v.n v.c) (13+k))
       go_roundw
       case rel=>exact ⟨k+1,fun i=>if i=k then v else t i,by omega,by go_num,S2.out,P2.out,T2.out⟩
       case measure=>simp [intOf];omega
     · obtain rfl:k=3:=by omega
       have c1:wr.cell? ⟨w.heap.size,16,none⟩=some (.slice s4.A s4.n s4.c):=S.p.cell 16 (by omega);have C:=hid (fun w h=>clone2_uint32 s4 L.addrs w h Z.out.lst.2.2.2);clear S P T;rw [show ((3:Nat):Int)=3 from rfl]
       go_wp2_with (first
        |(go_at_call 75;refine (C.out _ (H.out.2.2.2.below SS2.out.bel)).mono ?_;rintro e w1 ⟨v,rfl,hv,hb1,hf,hz0⟩;have S1:=hid (SS2.out.keep hb1);have c2:w1.cell? ⟨w.heap.size,16,none⟩=some (.slice s4.A s4.n s4.c):=S1.out.p.cell 16 (by omega);have f2:w1.frozen? ⟨w.heap.size,16,none⟩=false:=S1.out.p.2 _)
        |((with_reducible refine wpList_moveline ?hg1 (.tmp 1) ?ho1 w.heap.size ?hx1 L (t 0) (t 1) (t 2) v ?hb1 ?hg2 (.tmp 2) (.tmp 45) ?ho2 (w.heap.size+1) ?hx2 ?hy (lc LV.zero SlV.nil SlV.nil SlV.nil SlV.nil) ?hb2 ?_);(case hg1=>rfl);(case ho1=>rfl);(case hx1=>rfl);(case hg2=>rfl);(case ho2=>rfl);(case hx2=>rfl);(case hy=>rfl);(case hb1=>exact (S1.out.put 16 (.slice v.A v.n v.c) (by omega) (lc_last L (t 0) (t 1) (t 2) s4 v)).p);(case hb2=>exact (S1.out.put 16 (.slice v.A v.n v.c) (by omega) (lc_last L (t 0) (t 1) (t 2) s4 v)).r);intro w9 b9 e9))
       have T1:=TT.out.keep hb1;have q0:=T1.own 0 (by omega);have q1:=T1.own 1 (by omega);have q2:=T1.own 2 (by omega)
       have o0:=fun ad h=>(q0 ad h).1
       have o1:=fun ad h=>(q1 ad h).1
       have o2:=fun ad h=>(q2 ad h).1
       have G2:=G.out;have P2:=PP2.out.2.1;have B2:=(S1.out.put 16 (.slice v.A v.n v.c) (by omega) (lc_last L (t 0) (t 1) (t 2) s4 v)).bel
       have key:∀(k:IntKind) (s:SlV) (xs:List Int),ISl w1 k s.A s.n s.c xs→(∀ad,s.A=some ad→w.heap.size+2≤ad.block)→ISl w9 k s.A s.n s.c xs:=fun k s xs hi ho=>
        ISl.exOff (hi.setOff2 (fun ad h _=>by have:=ho ad h;omega)) e9 (fun ad h=>by have:=ho ad h;omega)
       have o3:∀ad,v.A=some ad→w.heap.size+2≤ad.block:=fun ad h=>by have:=(hf ad h).1;omega
       have kt:∀b,w.heap.size+2≤b→TyI w1 b→TyI w9 b:=fun b hb h=>(h.same (w':=w1.setCell ⟨w.heap.size,16,none⟩ (.slice v.A v.n v.c)) (Below.heap_setCell _ _ _ _ (by simp;omega))).same (e9.2.2.2.2 b (by omega) (by simpa using h.lt))
       exact bodyPost_ret (v:=vAw L (t 0) (t 1) (t 2) v) (copy_results _ _ (w.heap.size+1) L (t 0) (t 1) (t 2) v rfl b9) rfl ⟨t 0,t 1,t 2,v,rfl,⟨key _ _ _ (T1.rd 0 (by omega)) o0,key _ _ _ (T1.rd 1 (by omega)) o1,key _ _ _ (T1.rd 2 (by omega)) o2,key _ _ _ hv o3⟩,
        ⟨fun ad h=>by have:=o0 ad h;omega,fun ad h=>by have:=o1 ad h;omega,fun ad h=>by have:=o2 ad h;omega,fun ad h=>by have:=o3 ad h;omega⟩,⟨fun ad h=>kt _ (q0 ad h).1 (q0 ad h).2,fun ad h=>kt _ (q1 ad h).1 (q1 ad h).2,fun ad h=>kt _ (q2 ad h).1 (q2 ad h).2,fun ad h=>kt _ (o3 ad h) (hf ad h).2⟩,⟨T1.nil0 0 (by omega),T1.nil0 1 (by omega),T1.nil0 2 (by omega),hz0⟩,Below.ex B2 e9 (by omega) (by have:=B2.size;exact this)⟩
theorem isl_own {w:World} {k:IntKind} {B:Nat} {A:Option Addr} {n c:Nat} {xs:List Int} (h:ISl w k A n c xs) (h1:∀ad,A=some ad→B≤ad.block) (h2:∀ad,A=some ad→TyI w ad.block) (h3:A=none→c=0):RSl (Rdr.int k) w (fun b=>B≤b∧TyI w b) A n c xs:=by
 refine ⟨h.1,h.2.1,h.2.2.1,h3,fun hn=>?_⟩;obtain ⟨b,off,e,hl,hc⟩:=h.2.2.2 hn;refine ⟨b,off,e,⟨h1 _ e,h2 _ e⟩,hl,fun j x hx=>⟨[.int k x],rfl,fun i v hv=>?_⟩⟩;have hj:j<xs.length:=(List.getElem?_eq_some_iff.1 hx).1
 have hi0:i=0:=by have:=(List.getElem?_eq_some_iff.1 hv).1;simp at this;omega
 subst hi0
 have hv2:v=.int k x:=by simpa using hv.symm
 subst hv2
 have:=hc j (by rw [←h.1];exact hj)
 rw [show xs.getD j 0=x by simp [List.getD,hx]] at this
 show w.cell? ⟨b,off+j * 1+0,none⟩=_
 rw [Nat.mul_one,Nat.add_zero];exact this
theorem Cs.set {w:World} {q:Nat} {l:List Value} (h:Cs w q l) (j:Nat) (v:Value) (hj:j<l.length):Cs (w.setCell ⟨q,j,none⟩ v) q (l.set j v):=by
 refine ⟨fun i x hx=>?_,by simpa using h.2⟩
 by_cases e:i=j
 · subst e
   rw [List.getElem?_set_self hj] at hx
   cases hx
   exact World.cell?_setCell_same _ _ _ (h.1 i _ (List.getElem?_eq_getElem hj))
 · rw [List.getElem?_set_ne (fun g=>e g.symm)] at hx
   rw [World.cell?_setCell_other _ _ _ _ (by intro g;injection g with _ g2;first|exact e g2|exact e g2.symm)];exact h.1 i x hx
theorem Cs.far {w:World} {q p j:Nat} {l:List Value} (h:Cs w q l) (hp:p≠q) (v:Value):Cs (w.setCell ⟨p,j,none⟩ v) q l:=
 ⟨fun i x hx=>by rw [World.cell?_setCell_other _ _ _ _ (by intro g;injection g with g1;first|exact hp g1|exact hp g1.symm)];exact h.1 i x hx,by simpa using h.2⟩
theorem res_dev (tmps:Array Value) (W:World) (X:DevV) (q:Nat) (h2:tmps[2]?.getD undef=.pointer (some ⟨q,0,none⟩)) (hb:Cs W q [.int .i64 X.row,.int .i64 X.prio,.string (str X.name),.int .u64 X.mac,.int .u32 X.vtep]):
 (results Tryz.f61 tmps).run Tryz.prog W=.ok (.agg #[.int .i64 X.row,.int .i64 X.prio,.string (str X.name),.int .u64 X.mac,.int .u32 X.vtep]) W:=by
 have t0:=hb.1 0 _ rfl;have t1:=hb.1 1 _ rfl;have t2:=hb.1 2 _ rfl;have t3:=hb.1 3 _ rfl;have t4:=hb.1 4 _ rfl;clear hb;simp [results,Tryz.results61,go_sem,h2,t0,t1,t2,t3,t4]
def Got_dev (X:DevV) (w:World) (e:Ending) (w':World):Prop:=e=.returned (.agg #[.int .i64 X.row,.int .i64 X.prio,.string (str X.name),.int .u64 X.mac,.int .u32 X.vtep])∧Below w.heap.size w w'
theorem copy_dev (X:DevV) (w:World) (hs:X.name.length≤140737488351232):Calls Tryz.prog 61 #[.agg #[.int .i64 X.row,.int .i64 X.prio,.string (str X.name),.int .u64 X.mac,.int .u32 X.vtep]] w (Got_dev X w):=by
 have TC:=hid (fun w'=>tclone2 X.name w' hs);clear hs;unfold Got_dev
 go_enter Tryz.func61,Tryz.ntmps61
 go_upto_region 1 with fail
 obtain ⟨W,hW⟩:∃W,(w.alloc (.cells #[.int .i64 X.row,.int .i64 X.prio,.string (str X.name),.int .u64 X.mac,.int .u32 X.vtep] 57)).alloc (.cells #[.int .i64 0,.int .i64 0,.string ⟨#[]⟩,.int .u64 0,.int .u32 0] 57)=W:=⟨_,rfl⟩;have FA:=hid (show ∀o,W.frozen? ⟨w.heap.size,o,none⟩=false∧W.frozen? ⟨w.heap.size+1,o,none⟩=false from fun o=>by rw [←hW];exact ⟨by simp [go_sem],by simp [go_sem]⟩)
 have CA:=hid (show Cs W w.heap.size [.int .i64 X.row,.int .i64 X.prio,.string (str X.name),.int .u64 X.mac,.int .u32 X.vtep]∧Cs W (w.heap.size+1) [.int .i64 0,.int .i64 0,.string ⟨#[]⟩,.int .u64 0,.int .u32 0]∧Below w.heap.size w W from by
  have h1:=Cs.new w [.int .i64 X.row,.int .i64 X.prio,.string (str X.name),.int .u64 X.mac,.int .u32 X.vtep] 57;have h2:=Cs.new (w.alloc (.cells #[.int .i64 X.row,.int .i64 X.prio,.string (str X.name),.int .u64 X.mac,.int .u32 X.vtep] 57)) [.int .i64 0,.int .i64 0,.string ⟨#[]⟩,.int .u64 0,.int .u32 0] 57;rw [show (w.alloc (.cells #[.int .i64 X.row,.int .i64 X.prio,.string (str X.name),.int .u64 X.mac,.int .u32 X.vtep] 57)).heap.size=w.heap.size+1 by simp] at h2
  rw [←hW]
  exact ⟨h1.below (vAc _ _),h2,vBl w _ _⟩)
 rw [hW];clear hW;have KF:=hid (show ∀wx,Below W.heap.size W wx→∀o,wx.frozen? ⟨w.heap.size,o,none⟩=false∧wx.frozen? ⟨w.heap.size+1,o,none⟩=false from fun wx hx o=>⟨(World.frozen?_of_block (w:=W) (a:=⟨w.heap.size,o,none⟩) (hx.block _ CA.out.1.2)).trans (FA.out o).1,(World.frozen?_of_block (w:=W) (a:=⟨w.heap.size+1,o,none⟩) (hx.block _ CA.out.2.1.2)).trans (FA.out o).2⟩);have ql:w.heap.size<W.heap.size:=CA.out.1.2
 have ql2:w.heap.size+1<W.heap.size:=CA.out.2.1.2
 go_cut [] (fun wx=>Cs wx w.heap.size [.int .i64 X.row,.int .i64 X.prio,.string (str X.name),.int .u64 X.mac,.int .u32 X.vtep]∧Cs wx (w.heap.size+1) [.int .i64 0,.int .i64 0,.string ⟨#[]⟩,.int .u64 0,.int .u32 0]∧Below w.heap.size w wx∧W.heap.size≤wx.heap.size∧∀o,wx.frozen? ⟨w.heap.size+1,o,none⟩=false)
 case first=>
  have k2:=CA.out.1.1 2 _ rfl;go_wp2_with (go_at_call 73;(with_reducible refine (TC.out _).mono ?_);rintro e w1 ⟨rfl,hb⟩;have Y:=hid hb;have cs1:=CA.out.1.below hb;have q3:=cs1.2;have k2:=cs1.1 2 _ rfl;have z2:=(KF.out _ hb 2).1;clear hb)
  go_meet
  have D:=(CA.out.1.below Y.out).set 2 (.string (str X.name)) (by simp);exact ⟨D,(CA.out.2.1.below Y.out).far (by omega) _,(CA.out.2.2.trans (Y.out.mono CA.out.2.2.size)).setCell (Nat.le_refl _) _,by have:=Y.out.size;simpa using this,fun o=>by simp only [World.frozen?_setCell];exact (KF.out _ Y.out o).2⟩
 case rest=>
 obtain ⟨h1,h2,hb,hz,fz⟩:=hcut;rename World=>w5;have c0:=h1.1 0 _ rfl;have e0_:=h2.1 0 _ rfl;have c1:=h1.1 1 _ rfl;have e1_:=h2.1 1 _ rfl;have c2:=h1.1 2 _ rfl;have e2_:=h2.1 2 _ rfl;have c3:=h1.1 3 _ rfl;have e3_:=h2.1 3 _ rfl;have c4:=h1.1 4 _ rfl;have e4_:=h2.1 4 _ rfl;have q1:=h1.2;have q2:=h2.2;have z0:=fz 0;have z1:=fz 1;have z2:=fz 2;have z3:=fz 3;have z4:=fz 4;have CF:=hid (((((h2.set 0 (.int .i64 X.row) (by simp)).set 1 (.int .i64 X.prio) (by simp)).set 2 (.string (str X.name)) (by simp)).set 3 (.int .u64 X.mac) (by simp)).set 4 (.int .u32 X.vtep) (by simp))
 have BF:=hid (((((hb.setCell (p:=⟨w.heap.size+1,0,none⟩) (by simp) (.int .i64 X.row)).setCell (p:=⟨w.heap.size+1,1,none⟩) (by simp) (.int .i64 X.prio)).setCell (p:=⟨w.heap.size+1,2,none⟩) (by simp) (.string (str X.name))).setCell (p:=⟨w.heap.size+1,3,none⟩) (by simp) (.int .u64 X.mac)).setCell (p:=⟨w.heap.size+1,4,none⟩) (by simp) (.int .u32 X.vtep));have hh:=hid (show ∀b,W.heap.size≤b→(((((w5.setCell ⟨w.heap.size+1,0,none⟩ (.int .i64 X.row)).setCell ⟨w.heap.size+1,1,none⟩ (.int .i64 X.prio)).setCell ⟨w.heap.size+1,2,none⟩ (.string (str X.name))).setCell ⟨w.heap.size+1,3,none⟩ (.int .u64 X.mac)).setCell ⟨w.heap.size+1,4,none⟩ (.int .u32 X.vtep)).heap[b]?=w5.heap[b]? from fun b hb=>by rw [Below.heap_setCell _ _ _ _ (by intro e;simp at e;omega),Below.heap_setCell _ _ _ _ (by intro e;simp at e;omega),Below.heap_setCell _ _ _ _ (by intro e;simp at e;omega),Below.heap_setCell _ _ _ _ (by intro e;simp at e;omega),Below.heap_setCell _ _ _ _ (by intro e;simp at e;omega)])
 clear h1 h2 hb fz hz;go_wp2;refine bodyPost_ret (res_dev _ _ X (w.heap.size+1) rfl CF.out) rfl ?_;exact ⟨rfl,BF.out⟩
theorem res_dom (tmps:Array Value) (W:World) (X:DomV) (u1:Sl3) (q:Nat) (h2:tmps[2]?.getD undef=.pointer (some ⟨q,0,none⟩)) (hb:Cs W q [.int .i64 X.dev,.int .i64 X.vlan,.int .i64 X.vni,.int .i64 X.irb,.int .i64 X.row,.slice u1.A u1.n u1.c]):
 (results Tryz.f66 tmps).run Tryz.prog W=.ok (.agg #[.int .i64 X.dev,.int .i64 X.vlan,.int .i64 X.vni,.int .i64 X.irb,.int .i64 X.row,.slice u1.A u1.n u1.c]) W:=by
 have t0:=hb.1 0 _ rfl;have t1:=hb.1 1 _ rfl;have t2:=hb.1 2 _ rfl;have t3:=hb.1 3 _ rfl;have t4:=hb.1 4 _ rfl;have t5:=hb.1 5 _ rfl;clear hb;simp [results,Tryz.results66,go_sem,h2,t0,t1,t2,t3,t4,t5]
def Got_dom (X:DomV) (w:World) (e:Ending) (w':World):Prop:=∃u1:Sl3,e=.returned (.agg #[.int .i64 X.dev,.int .i64 X.vlan,.int .i64 X.vni,.int .i64 X.irb,.int .i64 X.row,.slice u1.A u1.n u1.c])∧RSl (Rdr.int .i64) w' (NFB w.heap.size w') u1.A u1.n u1.c X.peers∧Below w.heap.size w w'
theorem copy_dom (X:DomV) (s:Sl3) (w:World) (l1:RSl (Rdr.int .i64) w (vAs w) s.A s.n s.c X.peers) (z1:X.peers.length≤100):Calls Tryz.prog 66 #[.agg #[.int .i64 X.dev,.int .i64 X.vlan,.int .i64 X.vni,.int .i64 X.irb,.int .i64 X.row,.slice s.A s.n s.c]] w (Got_dom X w):=by
 have CL1:=hid (fun (w':World) (hb:Below w.heap.size w w')=>cl_int s X.peers w' (vAr l1 hb) (by omega));clear l1 z1;unfold Got_dom
 go_enter Tryz.func66,Tryz.ntmps66
 go_upto_region 1 with fail
 obtain ⟨W,hW⟩:∃W,(w.alloc (.cells #[.int .i64 X.dev,.int .i64 X.vlan,.int .i64 X.vni,.int .i64 X.irb,.int .i64 X.row,.slice s.A s.n s.c] 50)).alloc (.cells #[.int .i64 0,.int .i64 0,.int .i64 0,.int .i64 0,.int .i64 0,.slice none 0 0] 50)=W:=⟨_,rfl⟩;have FA:=hid (show ∀o,W.frozen? ⟨w.heap.size,o,none⟩=false∧W.frozen? ⟨w.heap.size+1,o,none⟩=false from fun o=>by rw [←hW];exact ⟨by simp [go_sem],by simp [go_sem]⟩)
 have CA:=hid (show Cs W w.heap.size [.int .i64 X.dev,.int .i64 X.vlan,.int .i64 X.vni,.int .i64 X.irb,.int .i64 X.row,.slice s.A s.n s.c]∧Cs W (w.heap.size+1) [.int .i64 0,.int .i64 0,.int .i64 0,.int .i64 0,.int .i64 0,.slice none 0 0]∧Below w.heap.size w W from by
  have h1:=Cs.new w [.int .i64 X.dev,.int .i64 X.vlan,.int .i64 X.vni,.int .i64 X.irb,.int .i64 X.row,.slice s.A s.n s.c] 50;have h2:=Cs.new (w.alloc (.cells #[.int .i64 X.dev,.int .i64 X.vlan,.int .i64 X.vni,.int .i64 X.irb,.int .i64 X.row,.slice s.A s.n s.c] 50)) [.int .i64 0,.int .i64 0,.int .i64 0,.int .i64 0,.int .i64 0,.slice none 0 0] 50;rw [show (w.alloc (.cells #[.int .i64 X.dev,.int .i64 X.vlan,.int .i64 X.vni,.int .i64 X.irb,.int .i64 X.row,.slice s.A s.n s.c] 50)).heap.size=w.heap.size+1 by simp] at h2
  rw [←hW]
  exact ⟨h1.below (vAc _ _),h2,vBl w _ _⟩)
 rw [hW];clear hW;have KF:=hid (show ∀wx,Below W.heap.size W wx→∀o,wx.frozen? ⟨w.heap.size,o,none⟩=false∧wx.frozen? ⟨w.heap.size+1,o,none⟩=false from fun wx hx o=>⟨(World.frozen?_of_block (w:=W) (a:=⟨w.heap.size,o,none⟩) (hx.block _ CA.out.1.2)).trans (FA.out o).1,(World.frozen?_of_block (w:=W) (a:=⟨w.heap.size+1,o,none⟩) (hx.block _ CA.out.2.1.2)).trans (FA.out o).2⟩);have ql:w.heap.size<W.heap.size:=CA.out.1.2
 have ql2:w.heap.size+1<W.heap.size:=CA.out.2.1.2
 go_cut [] (fun wx=>∃u1:Sl3,Cs wx w.heap.size [.int .i64 X.dev,.int .i64 X.vlan,.int .i64 X.vni,.int .i64 X.irb,.int .i64 X.row,.slice u1.A u1.n u1.c]∧Cs wx (w.heap.size+1) [.int .i64 0,.int .i64 0,.int .i64 0,.int .i64 0,.int .i64 0,.slice none 0 0]∧RSl (Rdr.int .i64) wx (NFB W.heap.size wx) u1.A u1.n u1.c X.peers∧Below w.heap.size w wx∧W.heap.size≤wx.heap.size∧∀o,wx.frozen? ⟨w.heap.size+1,o,none⟩=false)
 case first=>
  have k5:=CA.out.1.1 5 _ rfl;go_wp2_with (go_at_call 74;(with_reducible refine (CL1.out _ CA.out.2.2).mono ?_);rintro e w1 ⟨u,rfl,hr,hb⟩;have Y:=hid hb;have R:=hid hr;have cs1:=CA.out.1.below hb;have q3:=cs1.2;have k5:=cs1.1 5 _ rfl;have z5:=(KF.out _ hb 5).1;clear hb hr)
  go_meet
  have D:=(CA.out.1.below Y.out).set 5 (.slice u.A u.n u.c) (by simp);refine ⟨u,D,(CA.out.2.1.below Y.out).far (by omega) _,R.out.keep (F':=NFB W.heap.size _) (fun b hb=>?_) (fun b hb=>?_),(CA.out.2.2.trans (Y.out.mono CA.out.2.2.size)).setCell (Nat.le_refl _) _,by have:=Y.out.size;simpa using this,fun o=>by simp only [World.frozen?_setCell];exact (KF.out _ Y.out o).2⟩
  · exact Below.heap_setCell _ _ _ _ (by have:=hb.1;intro e;simp at e;omega)
  · exact hb.same (Below.heap_setCell _ _ _ _ (by have:=hb.1;intro e;simp at e;omega))
 case rest=>
 obtain ⟨u1,h1,h2,r1,hb,hz,fz⟩:=hcut;rename World=>w5;have c0:=h1.1 0 _ rfl;have e0_:=h2.1 0 _ rfl;have c1:=h1.1 1 _ rfl;have e1_:=h2.1 1 _ rfl;have c2:=h1.1 2 _ rfl;have e2_:=h2.1 2 _ rfl;have c3:=h1.1 3 _ rfl;have e3_:=h2.1 3 _ rfl;have c4:=h1.1 4 _ rfl;have e4_:=h2.1 4 _ rfl;have c5:=h1.1 5 _ rfl;have e5_:=h2.1 5 _ rfl;have q1:=h1.2;have q2:=h2.2;have z0:=fz 0;have z1:=fz 1;have z2:=fz 2;have z3:=fz 3
 have z4:=fz 4;have z5:=fz 5;have CF:=hid ((((((h2.set 0 (.int .i64 X.dev) (by simp)).set 1 (.int .i64 X.vlan) (by simp)).set 2 (.int .i64 X.vni) (by simp)).set 3 (.int .i64 X.irb) (by simp)).set 4 (.int .i64 X.row) (by simp)).set 5 (.slice u1.A u1.n u1.c) (by simp));have BF:=hid ((((((hb.setCell (p:=⟨w.heap.size+1,0,none⟩) (by simp) (.int .i64 X.dev)).setCell (p:=⟨w.heap.size+1,1,none⟩) (by simp) (.int .i64 X.vlan)).setCell (p:=⟨w.heap.size+1,2,none⟩) (by simp) (.int .i64 X.vni)).setCell (p:=⟨w.heap.size+1,3,none⟩) (by simp) (.int .i64 X.irb)).setCell (p:=⟨w.heap.size+1,4,none⟩) (by simp) (.int .i64 X.row)).setCell (p:=⟨w.heap.size+1,5,none⟩) (by simp) (.slice u1.A u1.n u1.c))
 have hh:=hid (show ∀b,W.heap.size≤b→((((((w5.setCell ⟨w.heap.size+1,0,none⟩ (.int .i64 X.dev)).setCell ⟨w.heap.size+1,1,none⟩ (.int .i64 X.vlan)).setCell ⟨w.heap.size+1,2,none⟩ (.int .i64 X.vni)).setCell ⟨w.heap.size+1,3,none⟩ (.int .i64 X.irb)).setCell ⟨w.heap.size+1,4,none⟩ (.int .i64 X.row)).setCell ⟨w.heap.size+1,5,none⟩ (.slice u1.A u1.n u1.c)).heap[b]?=w5.heap[b]? from fun b hb=>by rw [Below.heap_setCell _ _ _ _ (by intro e;simp at e;omega),Below.heap_setCell _ _ _ _ (by intro e;simp at e;omega),Below.heap_setCell _ _ _ _ (by intro e;simp at e;omega),Below.heap_setCell _ _ _ _ (by intro e;simp at e;omega),Below.heap_setCell _ _ _ _ (by intro e;simp at e;omega),Below.heap_setCell _ _ _ _ (by intro e;simp at e;omega)])
 have HR1:=hid r1;clear h1 h2 hb fz hz r1;go_wp2;refine bodyPost_ret (res_dom _ _ X u1 (w.heap.size+1) rfl CF.out) rfl ?_;exact ⟨u1,rfl,HR1.out.keep (F':=NFB w.heap.size _) (fun b hb=>hh.out b hb.1) (fun b hb=>(hb.low (by omega)).same (hh.out b hb.1)),BF.out⟩
theorem res_flood (tmps:Array Value) (W:World) (X:FloodV) (u1:Sl3) (q:Nat) (h2:tmps[2]?.getD undef=.pointer (some ⟨q,0,none⟩)) (hb:Cs W q [.int .i64 X.row,.int .i64 X.dev,.int .i64 X.vni,.slice u1.A u1.n u1.c]):
 (results Tryz.f69 tmps).run Tryz.prog W=.ok (.agg #[.int .i64 X.row,.int .i64 X.dev,.int .i64 X.vni,.slice u1.A u1.n u1.c]) W:=by
 have t0:=hb.1 0 _ rfl;have t1:=hb.1 1 _ rfl;have t2:=hb.1 2 _ rfl;have t3:=hb.1 3 _ rfl;clear hb;simp [results,Tryz.results69,go_sem,h2,t0,t1,t2,t3]
def Got_flood (X:FloodV) (w:World) (e:Ending) (w':World):Prop:=∃u1:Sl3,e=.returned (.agg #[.int .i64 X.row,.int .i64 X.dev,.int .i64 X.vni,.slice u1.A u1.n u1.c])∧RSl (Rdr.int .u32) w' (NFB w.heap.size w') u1.A u1.n u1.c X.addrs∧Below w.heap.size w w'
theorem copy_flood (X:FloodV) (s:Sl3) (w:World) (l1:RSl (Rdr.int .u32) w (vAs w) s.A s.n s.c X.addrs) (z1:X.addrs.length≤100):Calls Tryz.prog 69 #[.agg #[.int .i64 X.row,.int .i64 X.dev,.int .i64 X.vni,.slice s.A s.n s.c]] w (Got_flood X w):=by
 have CL1:=hid (fun (w':World) (hb:Below w.heap.size w w')=>cl_uint32 s X.addrs w' (vAr l1 hb) (by omega));clear l1 z1;unfold Got_flood
 go_enter Tryz.func69,Tryz.ntmps69
 go_upto_region 1 with fail
 obtain ⟨W,hW⟩:∃W,(w.alloc (.cells #[.int .i64 X.row,.int .i64 X.dev,.int .i64 X.vni,.slice s.A s.n s.c] 66)).alloc (.cells #[.int .i64 0,.int .i64 0,.int .i64 0,.slice none 0 0] 66)=W:=⟨_,rfl⟩;have FA:=hid (show ∀o,W.frozen? ⟨w.heap.size,o,none⟩=false∧W.frozen? ⟨w.heap.size+1,o,none⟩=false from fun o=>by rw [←hW];exact ⟨by simp [go_sem],by simp [go_sem]⟩)
 have CA:=hid (show Cs W w.heap.size [.int .i64 X.row,.int .i64 X.dev,.int .i64 X.vni,.slice s.A s.n s.c]∧Cs W (w.heap.size+1) [.int .i64 0,.int .i64 0,.int .i64 0,.slice none 0 0]∧Below w.heap.size w W from by
  have h1:=Cs.new w [.int .i64 X.row,.int .i64 X.dev,.int .i64 X.vni,.slice s.A s.n s.c] 66;have h2:=Cs.new (w.alloc (.cells #[.int .i64 X.row,.int .i64 X.dev,.int .i64 X.vni,.slice s.A s.n s.c] 66)) [.int .i64 0,.int .i64 0,.int .i64 0,.slice none 0 0] 66;rw [show (w.alloc (.cells #[.int .i64 X.row,.int .i64 X.dev,.int .i64 X.vni,.slice s.A s.n s.c] 66)).heap.size=w.heap.size+1 by simp] at h2;rw [←hW]
  exact ⟨h1.below (vAc _ _),h2,vBl w _ _⟩)
 rw [hW];clear hW;have KF:=hid (show ∀wx,Below W.heap.size W wx→∀o,wx.frozen? ⟨w.heap.size,o,none⟩=false∧wx.frozen? ⟨w.heap.size+1,o,none⟩=false from fun wx hx o=>⟨(World.frozen?_of_block (w:=W) (a:=⟨w.heap.size,o,none⟩) (hx.block _ CA.out.1.2)).trans (FA.out o).1,(World.frozen?_of_block (w:=W) (a:=⟨w.heap.size+1,o,none⟩) (hx.block _ CA.out.2.1.2)).trans (FA.out o).2⟩);have ql:w.heap.size<W.heap.size:=CA.out.1.2
 have ql2:w.heap.size+1<W.heap.size:=CA.out.2.1.2
 go_cut [] (fun wx=>∃u1:Sl3,Cs wx w.heap.size [.int .i64 X.row,.int .i64 X.dev,.int .i64 X.vni,.slice u1.A u1.n u1.c]∧Cs wx (w.heap.size+1) [.int .i64 0,.int .i64 0,.int .i64 0,.slice none 0 0]∧RSl (Rdr.int .u32) wx (NFB W.heap.size wx) u1.A u1.n u1.c X.addrs∧Below w.heap.size w wx∧W.heap.size≤wx.heap.size∧∀o,wx.frozen? ⟨w.heap.size+1,o,none⟩=false)
 case first=>
  have k3:=CA.out.1.1 3 _ rfl;go_wp2_with (go_at_call 75;(with_reducible refine (CL1.out _ CA.out.2.2).mono ?_);rintro e w1 ⟨u,rfl,hr,hb⟩;have Y:=hid hb;have R:=hid hr;have cs1:=CA.out.1.below hb;have q3:=cs1.2;have k3:=cs1.1 3 _ rfl;have z3:=(KF.out _ hb 3).1;clear hb hr)
  go_meet
  have D:=(CA.out.1.below Y.out).set 3 (.slice u.A u.n u.c) (by simp);refine ⟨u,D,(CA.out.2.1.below Y.out).far (by omega) _,R.out.keep (F':=NFB W.heap.size _) (fun b hb=>?_) (fun b hb=>?_),(CA.out.2.2.trans (Y.out.mono CA.out.2.2.size)).setCell (Nat.le_refl _) _,by have:=Y.out.size;simpa using this,fun o=>by simp only [World.frozen?_setCell];exact (KF.out _ Y.out o).2⟩
  · exact Below.heap_setCell _ _ _ _ (by have:=hb.1;intro e;simp at e;omega)
  · exact hb.same (Below.heap_setCell _ _ _ _ (by have:=hb.1;intro e;simp at e;omega))
 case rest=>
 obtain ⟨u1,h1,h2,r1,hb,hz,fz⟩:=hcut;rename World=>w5;have c0:=h1.1 0 _ rfl;have e0_:=h2.1 0 _ rfl;have c1:=h1.1 1 _ rfl;have e1_:=h2.1 1 _ rfl;have c2:=h1.1 2 _ rfl;have e2_:=h2.1 2 _ rfl;have c3:=h1.1 3 _ rfl;have e3_:=h2.1 3 _ rfl;have q1:=h1.2;have q2:=h2.2;have z0:=fz 0;have z1:=fz 1;have z2:=fz 2;have z3:=fz 3;have CF:=hid ((((h2.set 0 (.int .i64 X.row) (by simp)).set 1 (.int .i64 X.dev) (by simp)).set 2 (.int .i64 X.vni) (by simp)).set 3 (.slice u1.A u1.n u1.c) (by simp))
 have BF:=hid ((((hb.setCell (p:=⟨w.heap.size+1,0,none⟩) (by simp) (.int .i64 X.row)).setCell (p:=⟨w.heap.size+1,1,none⟩) (by simp) (.int .i64 X.dev)).setCell (p:=⟨w.heap.size+1,2,none⟩) (by simp) (.int .i64 X.vni)).setCell (p:=⟨w.heap.size+1,3,none⟩) (by simp) (.slice u1.A u1.n u1.c));have hh:=hid (show ∀b,W.heap.size≤b→((((w5.setCell ⟨w.heap.size+1,0,none⟩ (.int .i64 X.row)).setCell ⟨w.heap.size+1,1,none⟩ (.int .i64 X.dev)).setCell ⟨w.heap.size+1,2,none⟩ (.int .i64 X.vni)).setCell ⟨w.heap.size+1,3,none⟩ (.slice u1.A u1.n u1.c)).heap[b]?=w5.heap[b]? from fun b hb=>by rw [Below.heap_setCell _ _ _ _ (by intro e;simp at e;omega),Below.heap_setCell _ _ _ _ (by intro e;simp at e;omega),Below.heap_setCell _ _ _ _ (by intro e;simp at e;omega),Below.heap_setCell _ _ _ _ (by intro e;simp at e;omega)])
 have HR1:=hid r1;clear h1 h2 hb fz hz r1;go_wp2;refine bodyPost_ret (res_flood _ _ X u1 (w.heap.size+1) rfl CF.out) rfl ?_;exact ⟨u1,rfl,HR1.out.keep (F':=NFB w.heap.size _) (fun b hb=>hh.out b hb.1) (fun b hb=>(hb.low (by omega)).same (hh.out b hb.1)),BF.out⟩
end Go.Proofs.YtgnkpbgaoiaefaaGreat
