import Derived.Test.YtgmflecelnefcaaGreatOp45
import Derived.Test.YtgmflecelnefcaaGreatOp47
import Derived.Test.YtgmflecelnefcaaGreatOp15
import Derived.Test.YtgmflecelnefcaaGreatOp17
import Derived.Test.YtgmflecelnefcaaGreatOp30
import Derived.Test.YtgmflecelnefcaaGreatOp34
set_option maxRecDepth 100000
set_option maxHeartbeats 40000000
namespace Go.Proofs.YtgmflecelnefcaaGreat
open Go.Lib (hid)
open Go.RowKit
theorem ol2 {i:Nat} (h:i<2):i=0∨i=1:=by omega
def oN0:NV:=⟨[⟨0,0,[97],0,1⟩,⟨0,0,[98],0,2⟩],[],[],[⟨0,10,5010,-1,0,[]⟩,⟨1,10,5010,-1,0,[]⟩],[],[],[],[]⟩
def oX2:NV:=⟨[⟨0,0,[97],0,1⟩,⟨0,0,[98],0,2⟩],[],[],[⟨0,10,5010,-1,0,[1]⟩,⟨1,10,5010,-1,0,[0]⟩],[],[⟨7,0,5010,[2]⟩,⟨0,1,5010,[1]⟩],[],[]⟩
def oL1:LV:=⟨7,7,[97],[],[],[],[],0,0,0,0,5010,0,[],[],[],[2]⟩
def oL2:LV:=⟨0,7,[98],[],[],[],[],0,0,0,0,5010,0,[],[],[],[1]⟩
def oN1:NV:=vBg oN0 7 0 5010 [2]
def oN2:NV:=vBg oN1 0 1 5010 [1]
theorem o0_ok:NetOk oN0:=by
 refine ⟨by decide,by decide,by decide,by decide,by decide,by decide,by decide,by decide,⟨?_,?_⟩,?_,?_,⟨?_,?_,?_,?_⟩⟩
 · intro i hi
   rcases ol2 hi with rfl|rfl<;>exact ⟨by decide,by decide,by decide,by decide,.inl rfl⟩
 · intro i hi
   rcases ol2 hi with rfl|rfl<;>exact fun j hj=>absurd hj (Nat.not_lt_zero _)
 all_goals exact fun i hi=>absurd hi (Nat.not_lt_zero _)
theorem x2_ok:NetOk oX2:=by
 refine ⟨by decide,by decide,by decide,by decide,by decide,by decide,by decide,by decide,⟨?_,?_⟩,?_,?_,⟨?_,?_,?_,?_⟩⟩
 · intro i hi
   rcases ol2 hi with rfl|rfl<;>exact ⟨by decide,by decide,by decide,by decide,.inl rfl⟩
 · intro i hi
   rcases ol2 hi with rfl|rfl<;>(intro j hj;obtain rfl:j=0:=Nat.lt_one_iff.1 hj;exact ⟨by decide,by decide⟩)
 · exact fun i hi=>absurd hi (Nat.not_lt_zero _)
 · exact fun i hi=>absurd hi (Nat.not_lt_zero _)
 · exact fun i hi=>absurd hi (Nat.not_lt_zero _)
 · intro i hi
   rcases ol2 hi with rfl|rfl<;>exact ⟨by decide,by decide⟩
 all_goals exact fun i hi=>absurd hi (Nat.not_lt_zero _)
theorem o1_ok:NetOk oN1:=vIh 7 5010 o0_ok (by decide) (by decide) (by decide)
theorem o2_ok:NetOk oN2:=vIh 0 5010 o1_ok (by decide) (by decide) (by decide)
theorem nm_a9:nmB [97]=true:=(vGi _).2 ⟨by decide,by decide,by unfold Lc;decide,fun j hj=>by
 obtain rfl:j=0:=by have h:j<1:=hj;omega
 exact .inl (by unfold Lc;decide)⟩
theorem nm_b9:nmB [98]=true:=(vGi _).2 ⟨by decide,by decide,by unfold Lc;decide,fun j hj=>by
 obtain rfl:j=0:=by have h:j<1:=hj;omega
 exact .inl (by unfold Lc;decide)⟩
theorem o_rg1:rgB oL1=true:=rg_of7 (row:=7) ⟨[97],5010,[2],rfl,nm_a9,⟨by decide,by decide⟩,⟨by decide,by decide⟩⟩
theorem o_rg2:rgB oL2=true:=rg_of7 (row:=0) ⟨[98],5010,[1],rfl,nm_b9,⟨by decide,by decide⟩,⟨by decide,by decide⟩⟩
theorem o_f1:vCk oN0 oL1 7=true:=vDm.2 ⟨rfl,o_rg1,o0_ok⟩
theorem o_f2:vCk oN1 oL2 7=true:=vDm.2 ⟨rfl,o_rg2,o1_ok⟩
theorem o_p1:flN oN0 oL1=oN1∧flE oN0 oL1=0:=by
 have e:flE oN0 oL1=0:=by rw [fl_go (d:=0) o_f1 (by decide)];decide
 exact ⟨by unfold flN;rw [if_pos e,show dvF oN0 oL1.dev=0 by decide];rfl,e⟩
theorem o_p2:flN oN1 oL2=oN2∧flE oN1 oL2=0:=by
 have e:flE oN1 oL2=0:=by rw [fl_go (d:=1) o_f2 (by decide)];decide
 exact ⟨by unfold flN;rw [if_pos e,show dvF oN1 oL2.dev=1 by decide];rfl,e⟩
theorem o_m1:meN oN1=NV.zero∧meR oN1=7∧meE oN1=36:=me_36 (vFq o1_ok) (by decide)
theorem o_m2:meN oN2=oX2∧meR oN2=0∧meE oN2=0:=by
 have e:msN oN2=oX2:=rfl;have g:=me_ok (N:=oN2) (vFq o2_ok) (by decide) (by rw [e];exact vFq x2_ok);rw [e] at g;exact g
theorem o0_sz:NvSz oN0:=by
 refine ⟨by decide,by decide,by decide,by decide,by decide,by decide,by decide,by decide,?_,?_,?_,?_⟩
 · exact fun i hi=>absurd hi (Nat.not_lt_zero _)
 · intro i hi
   rcases ol2 hi with rfl|rfl<;>decide
 all_goals exact fun i hi=>absurd hi (Nat.not_lt_zero _)
theorem o1_sz:NvSz oN1:=fl_sz 7 0 5010 o0_sz (by decide) (by decide)
theorem o2_sz:NvSz oN2:=fl_sz 0 1 5010 o1_sz (by decide) (by decide)
theorem o0_nm:NmSz oN0:=by
 refine ⟨fun k hk=>?_,fun k hk=>absurd hk (Nat.not_lt_zero _),fun k hk=>absurd hk (Nat.not_lt_zero _)⟩
 rcases ol2 hk with rfl|rfl<;>decide
theorem o1_nm:NmSz oN1:=⟨o0_nm.1,o0_nm.2,o0_nm.3⟩
theorem o2_nm:NmSz oN2:=⟨o0_nm.1,o0_nm.2,o0_nm.3⟩
theorem o0_vt:VtOk oN0:=fun k hk=>by rcases ol2 hk with rfl|rfl<;>decide
theorem o1_vt:VtOk oN1:=o0_vt
theorem isl_u32 (w:World) (x:Int) (T:TypeId):ISl (w.alloc (.cells #[.int .u32 x] T)) .u32 (some ⟨w.heap.size,0,none⟩) 1 1 [x]:=by
 refine ⟨rfl,Nat.le_refl _,by unfold maxLen;omega,fun _=>⟨w.heap.size,0,rfl,by simp,fun j hj=>?_⟩⟩
 obtain rfl:j=0:=by omega
 simp
theorem o_put1 (N:NV) (S:NSl3) (w:World) (b:Nat) (h:NRead w (vAp w) N S) (hz:NvSz N) (hm:NmSz N) (hv:VtOk N) (hs:ISl w .u32 (some ⟨b,0,none⟩) 1 1 [2]):Calls Tryz.prog 14 #[vAm S,.agg #[.int .i64 7,.int .i64 7,.string ⟨#[97]⟩,.string ⟨#[]⟩,.string ⟨#[]⟩,.string ⟨#[]⟩,.string ⟨#[]⟩,.int .u64 0,.int .u32 0,.int .i64 0,.int .i64 0,.int .i64 5010,.int .i64 0,.slice none 0 0,.slice none 0 0,.slice none 0 0,.slice (some ⟨b,0,none⟩) 1 1]] w (vCn (flN N oL1) (flE N oL1) w):=
 coflood_b N S oL1 SlV.nil SlV.nil SlV.nil ⟨some ⟨b,0,none⟩,1,1⟩ w h ⟨ISl.nil,ISl.nil,ISl.nil,hs⟩ hz hm (by decide) (by decide) (by decide) (by decide) hv
theorem o_put2 (N:NV) (S:NSl3) (w:World) (b:Nat) (h:NRead w (vAp w) N S) (hz:NvSz N) (hm:NmSz N) (hv:VtOk N) (hs:ISl w .u32 (some ⟨b,0,none⟩) 1 1 [1]):Calls Tryz.prog 14 #[vAm S,.agg #[.int .i64 0,.int .i64 7,.string ⟨#[98]⟩,.string ⟨#[]⟩,.string ⟨#[]⟩,.string ⟨#[]⟩,.string ⟨#[]⟩,.int .u64 0,.int .u32 0,.int .i64 0,.int .i64 0,.int .i64 5010,.int .i64 0,.slice none 0 0,.slice none 0 0,.slice none 0 0,.slice (some ⟨b,0,none⟩) 1 1]] w (vCn (flN N oL2) (flE N oL2) w):=
 coflood_b N S oL2 SlV.nil SlV.nil SlV.nil ⟨some ⟨b,0,none⟩,1,1⟩ w h ⟨ISl.nil,ISl.nil,ISl.nil,hs⟩ hz hm (by decide) (by decide) (by decide) (by decide) hv
theorem NRead.farB {w w':World} {B q:Nat} {N:NV} {S:NSl3} (h:NRead w (fun b=>B≤b∧b<w.heap.size) N S) (hq:q<B) (hc:∀b,b≠q→w'.heap[b]?=w.heap[b]?) (hs:w.heap.size≤w'.heap.size):NRead w' (vAp w') N S:=
 h.keep (fun b g=>hc b (fun e=>by have:=g.1;omega)) (fun b g=>Nat.lt_of_lt_of_le g.2 hs)
def o0S (b:Nat):NSl3:=⟨⟨some ⟨b,0,none⟩,2,2⟩,Sl3.nil,Sl3.nil,⟨some ⟨b+1,0,none⟩,2,2⟩,Sl3.nil,Sl3.nil,Sl3.nil,Sl3.nil⟩
theorem o0_read {w:World} {b:Nat} (h1:w.heap[b]?=some (.cells #[.int .i64 0,.int .i64 0,.string ⟨#[97]⟩,.int .u64 0,.int .u32 1,.int .i64 0,.int .i64 0,.string ⟨#[98]⟩,.int .u64 0,.int .u32 2] 58)) (h2:w.heap[b+1]?=some (.cells #[.int .i64 0,.int .i64 10,.int .i64 5010,.int .i64 (-1),.int .i64 0,.slice none 0 0,.int .i64 1,.int .i64 10,.int .i64 5010,.int .i64 (-1),.int .i64 0,.slice none 0 0] 54)) (hl:b+1<w.heap.size):NRead w (vAp w) oN0 (o0S b):=by
 refine ⟨rsl_rows devR _ _ b oN0.devices (oN0.devices.map vGt) 58 (show b<w.heap.size by omega) h1 (by decide) (fun j x hx=>⟨_,by rw [List.getElem?_map,hx];rfl,rfl⟩),RSl.nil,RSl.nil,?_,RSl.nil,RSl.nil,RSl.nil,RSl.nil⟩
 exact rsl_rows domR _ _ (b+1) oN0.domains (oN0.domains.map fun D=>domC D Sl3.nil) 54 hl h2 (by decide) (fun j x hx=>⟨_,by rw [List.getElem?_map,hx];rfl,_,rfl,(by
  match j,hx with
  |0,hx=>obtain rfl:(⟨0,10,5010,-1,0,[]⟩:DomV)=x:=by simpa [oN0] using hx
         exact RSl.nil
  |1,hx=>obtain rfl:(⟨1,10,5010,-1,0,[]⟩:DomV)=x:=by simpa [oN0] using hx
         exact RSl.nil
  |j+2,hx=>simp [oN0] at hx)⟩)
theorem works19_any (w:World):Calls Tryz.prog 8 #[] w fun e w'=>e=.returned (.bool true)∧Below w.heap.size w w':=by
 go_enter Tryz.func8,Tryz.ntmps8
 go_upto_region 2 with fail
 have e1:(w.alloc (.cells #[.int .i64 0,.int .i64 0,.string ⟨#[97]⟩,.int .u64 0,.int .u32 1,.int .i64 0,.int .i64 0,.string ⟨#[98]⟩,.int .u64 0,.int .u32 2] 58)).heap.size=w.heap.size+1:=by simp
 have e2:((w.alloc (.cells #[.int .i64 0,.int .i64 0,.string ⟨#[97]⟩,.int .u64 0,.int .u32 1,.int .i64 0,.int .i64 0,.string ⟨#[98]⟩,.int .u64 0,.int .u32 2] 58)).alloc (.cells #[.int .i64 0,.int .i64 10,.int .i64 5010,.int .i64 (-1),.int .i64 0,.slice none 0 0,.int .i64 1,.int .i64 10,.int .i64 5010,.int .i64 (-1),.int .i64 0,.slice none 0 0] 54)).heap.size=w.heap.size+1+1:=by simp
 have g0:=heap_alloc_new w (.cells #[.int .i64 0,.int .i64 0,.string ⟨#[97]⟩,.int .u64 0,.int .u32 1,.int .i64 0,.int .i64 0,.string ⟨#[98]⟩,.int .u64 0,.int .u32 2] 58);have g1:=heap_alloc_new (w.alloc (.cells #[.int .i64 0,.int .i64 0,.string ⟨#[97]⟩,.int .u64 0,.int .u32 1,.int .i64 0,.int .i64 0,.string ⟨#[98]⟩,.int .u64 0,.int .u32 2] 58)) (.cells #[.int .i64 0,.int .i64 10,.int .i64 5010,.int .i64 (-1),.int .i64 0,.slice none 0 0,.int .i64 1,.int .i64 10,.int .i64 5010,.int .i64 (-1),.int .i64 0,.slice none 0 0] 54)
 rw [e1] at g1;have g3:((w.alloc (.cells #[.int .i64 0,.int .i64 0,.string ⟨#[97]⟩,.int .u64 0,.int .u32 1,.int .i64 0,.int .i64 0,.string ⟨#[98]⟩,.int .u64 0,.int .u32 2] 58)).alloc (.cells #[.int .i64 0,.int .i64 10,.int .i64 5010,.int .i64 (-1),.int .i64 0,.slice none 0 0,.int .i64 1,.int .i64 10,.int .i64 5010,.int .i64 (-1),.int .i64 0,.slice none 0 0] 54)).heap[w.heap.size]?=_:=(Below.heap_alloc _ _ _ (by simp)).trans g0
 obtain ⟨w2,hw2⟩:∃w2,((w.alloc (.cells #[.int .i64 0,.int .i64 0,.string ⟨#[97]⟩,.int .u64 0,.int .u32 1,.int .i64 0,.int .i64 0,.string ⟨#[98]⟩,.int .u64 0,.int .u32 2] 58)).alloc (.cells #[.int .i64 0,.int .i64 10,.int .i64 5010,.int .i64 (-1),.int .i64 0,.slice none 0 0,.int .i64 1,.int .i64 10,.int .i64 5010,.int .i64 (-1),.int .i64 0,.slice none 0 0] 54)).alloc (.cells #[.slice (some ⟨w.heap.size,0,none⟩) 2 2,.slice none 0 0,.slice none 0 0,.slice (some ⟨w.heap.size+1,0,none⟩) 2 2,.slice none 0 0,.slice none 0 0,.slice none 0 0,.slice none 0 0] 31)=w2:=⟨_,rfl⟩
 have K2:Below ((w.alloc (.cells #[.int .i64 0,.int .i64 0,.string ⟨#[97]⟩,.int .u64 0,.int .u32 1,.int .i64 0,.int .i64 0,.string ⟨#[98]⟩,.int .u64 0,.int .u32 2] 58)).alloc (.cells #[.int .i64 0,.int .i64 10,.int .i64 5010,.int .i64 (-1),.int .i64 0,.slice none 0 0,.int .i64 1,.int .i64 10,.int .i64 5010,.int .i64 (-1),.int .i64 0,.slice none 0 0] 54)).heap.size ((w.alloc (.cells #[.int .i64 0,.int .i64 0,.string ⟨#[97]⟩,.int .u64 0,.int .u32 1,.int .i64 0,.int .i64 0,.string ⟨#[98]⟩,.int .u64 0,.int .u32 2] 58)).alloc (.cells #[.int .i64 0,.int .i64 10,.int .i64 5010,.int .i64 (-1),.int .i64 0,.slice none 0 0,.int .i64 1,.int .i64 10,.int .i64 5010,.int .i64 (-1),.int .i64 0,.slice none 0 0] 54)) w2:=by rw [←hw2];exact vAc _ _
 have s2:w2.heap.size=w.heap.size+1+1+1:=by rw [←hw2];simp
 have R2:NRead w2 (vAp w2) oN0 (o0S w.heap.size):=o0_read ((K2.block _ (by rw [e2];omega)).trans g3) ((K2.block _ (by rw [e2];omega)).trans g1) (by omega)
 have tb:TBx w2 (w.heap.size+1+1) 31 [.slice (some ⟨w.heap.size,0,none⟩) 2 2,.slice none 0 0,.slice none 0 0,.slice (some ⟨w.heap.size+1,0,none⟩) 2 2,.slice none 0 0,.slice none 0 0,.slice none 0 0,.slice none 0 0]:=by
  have t:=TBx.new ((w.alloc (.cells #[.int .i64 0,.int .i64 0,.string ⟨#[97]⟩,.int .u64 0,.int .u32 1,.int .i64 0,.int .i64 0,.string ⟨#[98]⟩,.int .u64 0,.int .u32 2] 58)).alloc (.cells #[.int .i64 0,.int .i64 10,.int .i64 5010,.int .i64 (-1),.int .i64 0,.slice none 0 0,.int .i64 1,.int .i64 10,.int .i64 5010,.int .i64 (-1),.int .i64 0,.slice none 0 0] 54)) #[.slice (some ⟨w.heap.size,0,none⟩) 2 2,.slice none 0 0,.slice none 0 0,.slice (some ⟨w.heap.size+1,0,none⟩) 2 2,.slice none 0 0,.slice none 0 0,.slice none 0 0,.slice none 0 0] 31
  rw [e2,hw2] at t;exact t
 have B2:Below w.heap.size w w2:=(vAa (vAc _ _) (vAc _ _)).trans (K2.mono (by rw [e2];omega))
 have KN:=hid (show ∀wx,Below w2.heap.size w2 wx→(wx.cell? ⟨w.heap.size+1+1,0,none⟩=some (.slice (some ⟨w.heap.size,0,none⟩) 2 2)∧wx.cell? ⟨w.heap.size+1+1,1,none⟩=some (.slice none 0 0)∧wx.cell? ⟨w.heap.size+1+1,2,none⟩=some (.slice none 0 0)∧wx.cell? ⟨w.heap.size+1+1,3,none⟩=some (.slice (some ⟨w.heap.size+1,0,none⟩) 2 2)∧wx.cell? ⟨w.heap.size+1+1,4,none⟩=some (.slice none 0 0)∧wx.cell? ⟨w.heap.size+1+1,5,none⟩=some (.slice none 0 0)∧wx.cell? ⟨w.heap.size+1+1,6,none⟩=some (.slice none 0 0)∧wx.cell? ⟨w.heap.size+1+1,7,none⟩=some (.slice none 0 0))∧NRead wx (vAp wx) oN0 (o0S w.heap.size)∧Below w.heap.size w wx from fun wx hx=>by
  have t:=tb.below hx
  exact ⟨⟨t.cell 0 _ rfl,t.cell 1 _ rfl,t.cell 2 _ rfl,t.cell 3 _ rfl,t.cell 4 _ rfl,t.cell 5 _ rfl,t.cell 6 _ rfl,t.cell 7 _ rfl⟩,R2.up hx,vAa B2 hx⟩)
 have ql:w.heap.size+1+1<w2.heap.size:=by omega
 rw [hw2];clear e1 e2 g0 g1 g3 hw2 K2 s2 R2 tb B2
 have P1:=fun (wx:World) (b:Nat) (hx:Below w2.heap.size w2 wx) (hs:ISl wx .u32 (some ⟨b,0,none⟩) 1 1 [2])=>o_put1 oN0 _ wx b (KN.out wx hx).2.1 o0_sz o0_nm o0_vt hs
 rw [o_p1.1,o_p1.2] at P1
 have P2:=fun (U:NSl3) (wx:World) (b:Nat) (h:NRead wx (vAp wx) oN1 U) (hs:ISl wx .u32 (some ⟨b,0,none⟩) 1 1 [1])=>o_put2 oN1 U wx b h o1_sz o1_nm o1_vt hs
 rw [o_p2.1,o_p2.2] at P2
 have M1:=fun (U:NSl3) (wx:World) (h:NRead wx (vAp wx) oN1 U)=>xmesh_b oN1 U wx h o1_sz o1_nm
 rw [o_m1.1,o_m1.2.1,o_m1.2.2] at M1
 have M2:=fun (U:NSl3) (wx:World) (h:NRead wx (vAp wx) oN2 U)=>xmesh_b oN2 U wx h o2_sz o2_nm
 rw [o_m2.1,o_m2.2.1,o_m2.2.2] at M2;unfold vCn at P1 P2;unfold GotMeB at M1 M2;unfold vAm o0S Sl3.nil at P1;unfold vAm at P2 M1 M2;dsimp only at P1;replace P1:=hid P1;replace P2:=hid P2;replace M1:=hid M1;replace M2:=hid M2;obtain ⟨f0,f1,f2,f3,f4,f5,f6,f7⟩:=(KN.out _ (Below.refl _ _)).1
 go_upto_region 3 with (go_at_call 14;(refine (P1.out _ w2.heap.size (vAc _ _) (isl_u32 w2 2 _)).mono ?_);rintro e w3 ⟨U,rfl,hr,hb⟩;have R3:=hid hr;have Y3:=hid (vAa (vAc w2 (.cells #[.int .u32 2] 33)) hb);clear hr hb)
 clear f0 f1 f2 f3 f4 f5 f6 f7;obtain ⟨w4,hw4⟩:∃w4,w3.alloc (.cells #[.slice U.dv.A U.dv.n U.dv.c,.slice U.pt.A U.pt.n U.pt.c,.slice U.lk.A U.lk.n U.lk.c,.slice U.dm.A U.dm.n U.dm.c,.slice U.st.A U.st.n U.st.c,.slice U.fl.A U.fl.n U.fl.c,.slice U.vr.A U.vr.n U.vr.c,.slice U.ir.A U.ir.n U.ir.c] 31)=w4:=⟨_,rfl⟩;obtain ⟨qm,hqm⟩:∃q,w3.heap.size=q:=⟨_,rfl⟩
 have A4:Below w3.heap.size w3 w4:=by rw [←hw4];exact vAc _ _
 have T4:=hid (show TBx w4 qm 31 (vBk U) by rw [←hw4,←hqm];exact TBx.new w3 _ _);have R4:=hid (show NRead w4 (vAp w4) oN1 U from R3.out.keep (fun b g=>A4.block b g.2) (fun b g=>Nat.lt_of_lt_of_le g.2 A4.size));have Y4:=hid (vAa Y3.out A4);have QM:=hid (show w2.heap.size≤qm by rw [←hqm];exact Y3.out.size);rw [hw4];rw [hqm];clear hw4 hqm A4 R3 Y3;have t0:=T4.out.cell 0 (.slice U.dv.A U.dv.n U.dv.c) rfl
 have t1:=T4.out.cell 1 (.slice U.pt.A U.pt.n U.pt.c) rfl;have t2:=T4.out.cell 2 (.slice U.lk.A U.lk.n U.lk.c) rfl;have t3:=T4.out.cell 3 (.slice U.dm.A U.dm.n U.dm.c) rfl;have t4:=T4.out.cell 4 (.slice U.st.A U.st.n U.st.c) rfl;have t5:=T4.out.cell 5 (.slice U.fl.A U.fl.n U.fl.c) rfl;have t6:=T4.out.cell 6 (.slice U.vr.A U.vr.n U.vr.c) rfl;have t7:=T4.out.cell 7 (.slice U.ir.A U.ir.n U.ir.c) rfl;have ul_:=T4.out.lt
 go_upto_region 4 with (go_at_call 17;(refine (M1.out U _ R4.out).mono ?_);rintro e w5 ⟨V,rfl,hr,hb⟩;have T5:=hid (T4.out.below hb);have R5:=hid (R4.out.up hb);have Y5:=hid (vAa Y4.out hb);clear hr hb t0 t1 t2 t3 t4 t5 t6 t7 ul_)
 obtain ⟨w6,hw6⟩:∃w6,w5.alloc (.cells #[.slice V.dv.A V.dv.n V.dv.c,.slice V.pt.A V.pt.n V.pt.c,.slice V.lk.A V.lk.n V.lk.c,.slice V.dm.A V.dm.n V.dm.c,.slice V.st.A V.st.n V.st.c,.slice V.fl.A V.fl.n V.fl.c,.slice V.vr.A V.vr.n V.vr.c,.slice V.ir.A V.ir.n V.ir.c] 31)=w6:=⟨_,rfl⟩
 have A6:Below w5.heap.size w5 w6:=by rw [←hw6];exact vAc _ _
 have T6:=hid (T5.out.below A6);have R6:=hid (R5.out.up A6);have Y6:=hid (vAa Y5.out A6);rw [hw6];clear hw6 A6 T5 R5 T4 R4;have t0:=T6.out.cell 0 (.slice U.dv.A U.dv.n U.dv.c) rfl;have t1:=T6.out.cell 1 (.slice U.pt.A U.pt.n U.pt.c) rfl;have t2:=T6.out.cell 2 (.slice U.lk.A U.lk.n U.lk.c) rfl;have t3:=T6.out.cell 3 (.slice U.dm.A U.dm.n U.dm.c) rfl;have t4:=T6.out.cell 4 (.slice U.st.A U.st.n U.st.c) rfl
 have t5:=T6.out.cell 5 (.slice U.fl.A U.fl.n U.fl.c) rfl;have t6:=T6.out.cell 6 (.slice U.vr.A U.vr.n U.vr.c) rfl;have t7:=T6.out.cell 7 (.slice U.ir.A U.ir.n U.ir.c) rfl;have ul_:=T6.out.lt
 go_upto_region 5 with (go_at_call 14;(refine (P2.out U _ w6.heap.size (R6.out.up (vAc _ _)) (isl_u32 w6 1 _)).mono ?_);rintro e w7 ⟨U2,rfl,hr,hb⟩;have R7:=hid hr;have Y7:=hid (vAa Y6.out (vAa (vAc w6 (.cells #[.int .u32 1] 33)) hb));have T7:=hid (T6.out.below (vAa (vAc w6 (.cells #[.int .u32 1] 33)) hb));have L7:=hid (show qm<w6.heap.size from T6.out.lt);clear hr hb t0 t1 t2 t3 t4 t5 t6 t7 ul_;have t0:=T7.out.cell 0 (.slice U.dv.A U.dv.n U.dv.c) rfl;have z0:=T7.out.live 0;have t1:=T7.out.cell 1 (.slice U.pt.A U.pt.n U.pt.c) rfl;have z1:=T7.out.live 1;have t2:=T7.out.cell 2 (.slice U.lk.A U.lk.n U.lk.c) rfl;have z2:=T7.out.live 2;have t3:=T7.out.cell 3 (.slice U.dm.A U.dm.n U.dm.c) rfl;have z3:=T7.out.live 3;have t4:=T7.out.cell 4 (.slice U.st.A U.st.n U.st.c) rfl;have z4:=T7.out.live 4;have t5:=T7.out.cell 5 (.slice U.fl.A U.fl.n U.fl.c) rfl;have z5:=T7.out.live 5;have t6:=T7.out.cell 6 (.slice U.vr.A U.vr.n U.vr.c) rfl;have z6:=T7.out.live 6;have t7:=T7.out.cell 7 (.slice U.ir.A U.ir.n U.ir.c) rfl;have z7:=T7.out.live 7;have ul_:=T7.out.lt)
 clear t0 t1 t2 t3 t4 t5 t6 t7 z0 z1 z2 z3 z4 z5 z6 z7 ul_;generalize hw8:World.setCell _ _ _=w8;have hw8:st8 w7 qm U2=w8:=hw8;have T8:=hid (show TBx w8 qm 31 (vBk U2) by rw [←hw8];exact T7.out.st8 U2);have R8:=hid (show NRead w8 (vAp w8) oN2 U2 from R7.out.farB (q:=qm) (by have:=L7.out;simp;omega) (fun b hb=>by rw [←hw8];exact vAx _ _ _ hb) (by rw [←hw8,vBh];exact Nat.le_refl _))
 have Y8:=hid (show Below w2.heap.size w2 w8 by rw [←hw8];exact Below.st8 Y7.out QM.out U2);clear hw8 R7 Y7 T7;have t0:=T8.out.cell 0 (.slice U2.dv.A U2.dv.n U2.dv.c) rfl;have t1:=T8.out.cell 1 (.slice U2.pt.A U2.pt.n U2.pt.c) rfl;have t2:=T8.out.cell 2 (.slice U2.lk.A U2.lk.n U2.lk.c) rfl;have t3:=T8.out.cell 3 (.slice U2.dm.A U2.dm.n U2.dm.c) rfl;have t4:=T8.out.cell 4 (.slice U2.st.A U2.st.n U2.st.c) rfl
 have t5:=T8.out.cell 5 (.slice U2.fl.A U2.fl.n U2.fl.c) rfl;have t6:=T8.out.cell 6 (.slice U2.vr.A U2.vr.n U2.vr.c) rfl;have t7:=T8.out.cell 7 (.slice U2.ir.A U2.ir.n U2.ir.c) rfl;have ul_:=T8.out.lt
 go_upto_region 6 with (go_at_call 17;(refine (M2.out U2 _ R8.out).mono ?_);rintro e w9 ⟨U3,rfl,hr,hb⟩;have R9:=hid hr;have Y9:=hid (vAa Y8.out hb);have T9:=hid (T8.out.below hb);have L9:=hid (show qm<w8.heap.size from T8.out.lt);clear hr hb t0 t1 t2 t3 t4 t5 t6 t7 ul_;have t0:=T9.out.cell 0 (.slice U2.dv.A U2.dv.n U2.dv.c) rfl;have z0:=T9.out.live 0;have t1:=T9.out.cell 1 (.slice U2.pt.A U2.pt.n U2.pt.c) rfl;have z1:=T9.out.live 1;have t2:=T9.out.cell 2 (.slice U2.lk.A U2.lk.n U2.lk.c) rfl;have z2:=T9.out.live 2;have t3:=T9.out.cell 3 (.slice U2.dm.A U2.dm.n U2.dm.c) rfl;have z3:=T9.out.live 3;have t4:=T9.out.cell 4 (.slice U2.st.A U2.st.n U2.st.c) rfl;have z4:=T9.out.live 4;have t5:=T9.out.cell 5 (.slice U2.fl.A U2.fl.n U2.fl.c) rfl;have z5:=T9.out.live 5;have t6:=T9.out.cell 6 (.slice U2.vr.A U2.vr.n U2.vr.c) rfl;have z6:=T9.out.live 6;have t7:=T9.out.cell 7 (.slice U2.ir.A U2.ir.n U2.ir.c) rfl;have z7:=T9.out.live 7;have ul_:=T9.out.lt)
 clear t0 t1 t2 t3 t4 t5 t6 t7 z0 z1 z2 z3 z4 z5 z6 z7 ul_;generalize hwa:World.setCell _ _ _=wa;have hwa:st8 w9 qm U3=wa:=hwa;have TA:=hid (show TBx wa qm 31 (vBk U3) by rw [←hwa];exact T9.out.st8 U3);have RA:=R9.out.farB (w':=wa) (q:=qm) L9.out (fun b hb=>by rw [←hwa];exact vAx _ _ _ hb) (by rw [←hwa,vBh];exact Nat.le_refl _);have YA:=hid (show Below w2.heap.size w2 wa by rw [←hwa];exact Below.st8 Y9.out QM.out U3)
 clear hwa R9 Y9 T9;have ln:=RA.dm.len
 have ln2:U3.dm.n=2:=by rw [←ln];rfl
 obtain ⟨bd,od,vd,ed,_,_,⟨s,rfl,ls⟩,rd⟩:=vAi RA.dm 0 (by omega) DomV.zero;have sl:=ls.len
 have sn:s.n=1:=by rw [←sl];rfl
 obtain ⟨ba,oa,es,_,hca⟩:=(vAu ls).2.2.2 (by omega);have ca_:=hca 0 (by omega);have ca_:wa.cell? ⟨ba,oa,none⟩=some (.int .i64 1):=ca_
 have cd_:wa.cell? ⟨bd,od+5,none⟩=some (.slice s.A s.n s.c):=by have e:=rd 5 _ rfl;rwa [Nat.zero_mul,Nat.add_zero] at e
 rw [es,sn] at cd_;have u3_:=TA.out.cell 3 (.slice U3.dm.A U3.dm.n U3.dm.c) rfl;have ul_:=TA.out.lt;rw [ed,ln2] at u3_;have dle:=RA.dm.le;have sle:=ls.le;rw [ln2] at dle;rw [sn] at sle;clear rd ls hca RA ln sl ed es;go_wp2;go_ret;exact ⟨by first|rfl|simp,(KN.out _ YA.out).2.2⟩
theorem isl_nsl {w:World} {k:IntKind} {s:SlV} {xs:List Int} (h:ISl w k s.A s.n s.c xs):NSl w (vAp w) k s xs:=⟨h,fun hn ad e=>by
 obtain ⟨b,off,e2,hl,_⟩:=h.2.2.2 hn;rw [e] at e2
 injection e2 with e2
 rw [e2]
 exact hl⟩
theorem line_row {w:World} {L:LV} {s1 s2 s3 s4:SlV} {q:Nat} (h:LRead w L s1 s2 s3 s4) (e:w.heap[q]?=some (.cells (vEl L s1 s2 s3 s4).toArray 37)):RSl lineR w (vAp w) (some ⟨q,0,none⟩) 1 1 [L]:=by
 have hq:q<w.heap.size:=by
  rcases Nat.lt_or_ge q w.heap.size with h'|h'
  · exact h'
  · rw [Array.getElem?_eq_none h'] at e;cases e
 exact rsl_one lineR w _ q (vEl L s1 s2 s3 s4) L hq hq ⟨s1,s2,s3,s4,rfl,isl_nsl h.1,isl_nsl h.2.1,isl_nsl h.2.2.1,isl_nsl h.2.2.2⟩ (range_list (T:=37) e)
theorem great16_any (N:NV) (S:NSl3) (L:LV) (s1 s2 s3 s4:SlV) (w:World) (h:NRead w (vAp w) N S) (hl:LRead w L s1 s2 s3 s4):Calls Tryz.prog 7 #[vAm S,vAv L s1 s2 s3 s4] w (GotGr N L w):=by
 have UP:=hid (fun (w':World) (hb:Below w.heap.size w w')=>h.up hb);have UL:=hid (fun (w':World) (hb:Below w.heap.size w w')=>vAk hl hb)
 have G1:=fun (w':World) (hb:Below w.heap.size w w')=>ngreat_any N S w' (h.up hb)
 unfold GotNG vAm at G1;have G1:=hid G1;have G2:=hid (fun (q:Nat) (w':World) (hb:Below w.heap.size w w') (e:w'.heap[q]?=some (.cells (vEl L s1 s2 s3 s4).toArray 37))=>great12_any (some ⟨q,0,none⟩) 1 1 [L] w' (line_row (vAk hl hb) e));clear h hl;unfold vAm;rw [vBw]
 go_enter Tryz.func7,Tryz.ntmps7
 go_upto_region 1 with fail
 generalize hw1:World.alloc _ _=w1;obtain ⟨B1,NB,LB,ql1⟩:=pre_two (S:=S) (L:=L) (s1:=s1) (s2:=s2) (s3:=s3) (s4:=s4) hw1;clear hw1;replace B1:=hid B1;replace NB:=hid NB;replace LB:=hid LB
 have KN:=hid (show ∀wx,Below w1.heap.size w1 wx→NF wx w.heap.size S∧(wx.cell? ⟨w.heap.size+1,1,none⟩=some (.int .i64 L.kind))∧BoxF wx (w.heap.size+1) 17 (lc L s1 s2 s3 s4)∧NRead wx (vAp wx) N S∧LRead wx L s1 s2 s3 s4∧Below w.heap.size w wx from fun wx hx=>by
  have nb:=NB.out.below hx;have bx:=LB.out.below (by omega) hx;have b0:=B1.out.trans (hx.mono B1.out.size)
  exact ⟨⟨nb.c0,nb.c1,nb.c2,nb.c3,nb.c4,nb.c5,nb.c6,nb.c7⟩,bx.cell 1 (by omega),bx,UP.out _ b0,UL.out _ b0,b0⟩)
 have BS:=hid (Below.refl w1.heap.size w1);obtain ⟨⟨f0,f1,f2,f3,f4,f5,f6,f7⟩,g1,lb_,_⟩:=KN.out w1 (Below.refl _ _)
 go_wp2_with (first
  |(((with_reducible refine vAf ?hg (.tmp 3) ?ho (w.heap.size+1) ?hx L s1 s2 s3 s4 lb_ ?_);(case hg=>rfl);(case ho=>rfl);(case hx=>rfl));unfold vAv)
  |(go_at_call 16;(with_reducible refine (G1.out _ B1.out).mono ?_);rintro e w2 ⟨g,rfl,hg,b_⟩;have Y2:=hid b_;have X2:=hid (vAa B1.out b_);have HG:=hid hg;obtain ⟨⟨f0,f1,f2,f3,f4,f5,f6,f7⟩,g1,lb_,_⟩:=KN.out _ Y2.out;clear hg b_;cases g)
  |(go_at_call 28;(refine (G2.out w2.heap.size _ (vAa X2.out (vAc _ _)) (heap_alloc_new _ _)).mono ?_);rintro e w3 ⟨g,rfl,hg,b_⟩;have X3:=hid (vAa (X2.out.trans ((vAc _ _).mono X2.out.size)) b_);have HG3:=hid hg;clear hg b_))
 · go_ret
   exact ⟨g,rfl,fun e=>⟨HG.out (by simp),(HG3.out e).2 0 (by omega)⟩,X3.out⟩
 · go_ret
   exact ⟨true,rfl,(fun e=>by cases e),X2.out⟩
end Go.Proofs.YtgmflecelnefcaaGreat
