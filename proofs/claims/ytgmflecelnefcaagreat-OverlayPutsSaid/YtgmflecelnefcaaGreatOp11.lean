import Derived.Test.YtgmflecelnefcaaGreatOp08
import Derived.Test.YtgmflecelnefcaaGreatOp09
import Derived.Test.YtgmflecelnefcaaGreatOp10
import Derived.Test.YtgmflecelnefcaaGreatOp01
import Derived.Test.YtgmflecelnefcaaGreatOp05
import Derived.Laws.AppendOwnNone
import Derived.Laws.CopyOwn
import Derived.Deep.RegionHeldLaw
import Derived.Lib.SmallJoins
import Derived.Lib.SliceRun
import Derived.Deep.MidRow
import Derived.Great.Walk
import Derived.WalkSpells
import Derived.Test.YtgmflecelnefcaaGreatShelf
set_option maxRecDepth 100000
set_option maxHeartbeats 40000000
namespace Go.Proofs.YtgmflecelnefcaaGreat
open Go.Lib (hid)
open Go.RowKit
structure NetOk (N:NV):Prop where
 zdv:N.devices.length≤8
 zpt:N.ports.length≤40
 zlk:N.links.length≤20
 zdm:N.domains.length≤48
 zst:N.statics.length≤64
 zfl:N.floods.length≤48
 zvr:N.vrfs.length≤16
 zir:N.irbs.length≤48
 dm:DomsOk N
 pt:∀i,i<N.ports.length→PortOk N i (N.ports.getD i PortV.zero)
 lk:∀i,i<N.links.length→LinkOk N i (N.links.getD i LinkV.zero)
 rs:RestOk N
noncomputable def vHw (N:NV):Bool:=@decide (NetOk N) (Classical.propDecidable _)
theorem netB_no {N:NV} (h:¬NetOk N):vHw N=false:=by
 unfold vHw;exact @decide_eq_false _ (Classical.propDecidable _) h
theorem vFq {N:NV} (h:NetOk N):vHw N=true:=by
 unfold vHw;exact @decide_eq_true _ (Classical.propDecidable _) h
theorem netB_iff (N:NV):vHw N=true↔NetOk N:=by
 unfold vHw;exact @decide_eq_true_iff _ (Classical.propDecidable _)
theorem rnright_any (N:NV) (S:NSl3) (w:World) (h:NRead w (vAp w) N S):Calls Tryz.prog 19 #[vAm S] w fun e w'=>e=.returned (.bool (vHw N))∧Below w.heap.size w w':=by
 have LE_dv:=hid h.dv.len;have hle_dv:=h.dv.le;have hcap_dv:=h.dv.cap;have LE_pt:=hid h.pt.len;have hle_pt:=h.pt.le;have hcap_pt:=h.pt.cap;have LE_lk:=hid h.lk.len;have hle_lk:=h.lk.le;have hcap_lk:=h.lk.cap;have LE_dm:=hid h.dm.len;have hle_dm:=h.dm.le;have hcap_dm:=h.dm.cap;have LE_st:=hid h.st.len;have hle_st:=h.st.le;have hcap_st:=h.st.cap;have LE_fl:=hid h.fl.len;have hle_fl:=h.fl.le
 have hcap_fl:=h.fl.cap;have LE_vr:=hid h.vr.len;have hle_vr:=h.vr.le;have hcap_vr:=h.vr.cap;have LE_ir:=hid h.ir.len;have hle_ir:=h.ir.le;have hcap_ir:=h.ir.cap;have NO:=hid (@netB_no N);have YES:=hid (@vFq N)
 have UPN:=fun (w':World) (hb:Below w.heap.size w w')=>h.up hb
 have D1:=fun (w':World) (hb:Below w.heap.size w w')=>domains_any N S w' (UPN w' hb)
 have D2:=fun (w':World) (hb:Below w.heap.size w w')=>ports_any N S w' (UPN w' hb)
 have D3:=fun (w':World) (hb:Below w.heap.size w w')=>links_any N S w' (UPN w' hb)
 have D4:=fun (w':World) (hb:Below w.heap.size w w')=>rest_any N S w' (UPN w' hb)
 obtain ⟨v1,hv1⟩:∃v,dmsB N=v:=⟨_,rfl⟩;obtain ⟨v2,hv2⟩:∃v,ptsB N=v:=⟨_,rfl⟩;obtain ⟨v3,hv3⟩:∃v,lksB N=v:=⟨_,rfl⟩;obtain ⟨v4,hv4⟩:∃v,rstB N=v:=⟨_,rfl⟩;rw [hv1] at D1;rw [hv2] at D2;rw [hv3] at D3;rw [hv4] at D4;unfold vAm at D1 D2 D3 D4 ⊢;have D1:=hid D1;have D2:=hid D2;have D3:=hid D3;have D4:=hid D4;have NB:=hid (NBox.new w S 31);have F1:=hid (show v1=false→¬NetOk N from fun e g=>by have:=(dmsB_iff N).2 g.dm;rw [hv1,e] at this;cases this)
 have F2:=hid (show v2=false→¬NetOk N from fun e g=>by have:=(ptsB_iff N).2 g.pt;rw [hv2,e] at this;cases this);have F3:=hid (show v3=false→¬NetOk N from fun e g=>by have:=(lksB_iff N).2 g.lk;rw [hv3,e] at this;cases this);have F4:=hid (show v4=false→¬NetOk N from fun e g=>by have:=(rstB_iff N).2 g.rs;rw [hv4,e] at this;cases this);have T1:=hid (show v1=true→DomsOk N from fun e=>(dmsB_iff N).1 (hv1.trans e))
 have T2:=hid (show v2=true→_ from fun e=>(ptsB_iff N).1 (hv2.trans e));have T3:=hid (show v3=true→_ from fun e=>(lksB_iff N).1 (hv3.trans e));have T4:=hid (show v4=true→_ from fun e=>(rstB_iff N).1 (hv4.trans e));generalize vHw N=V at *;clear h UPN hv1 hv2 hv3 hv4
 have KN:=hid (show ∀wx,Below (w.alloc (.cells (nA S) 31)).heap.size (w.alloc (.cells (nA S) 31)) wx→(NF wx w.heap.size S)∧Below w.heap.size w wx from fun wx hx=>by
  have nb:=NB.out.below hx
  exact ⟨⟨nb.c0,nb.c1,nb.c2,nb.c3,nb.c4,nb.c5,nb.c6,nb.c7⟩,((Below.refl _ _).alloc (Nat.le_refl _) _).trans (hx.mono (by simp))⟩)
 have B0:=hid (show Below w.heap.size w (w.alloc (.cells (nA S) 31)) from (Below.refl _ _).alloc (Nat.le_refl _) _)
 by_cases c_dv:8<S.dv.n
 · have z_dv:(8:Int)<(S.dv.n:Int):=by omega
   have EV:=hid (NO.out (fun g=>by have:=g.zdv;rw [LE_dv.out] at this;omega));clear c_dv
   go_enter Tryz.func19,Tryz.ntmps19
   go_wp2;go_ret;exact ⟨by rw [EV.out];rfl,B0.out⟩
 have z_dv:¬(8:Int)<(S.dv.n:Int):=by omega
 by_cases c_pt:40<S.pt.n
 · have z_pt:(40:Int)<(S.pt.n:Int):=by omega
   have EV:=hid (NO.out (fun g=>by have:=g.zpt;rw [LE_pt.out] at this;omega));clear c_pt
   go_enter Tryz.func19,Tryz.ntmps19
   go_wp2;go_ret;exact ⟨by rw [EV.out];rfl,B0.out⟩
 have z_pt:¬(40:Int)<(S.pt.n:Int):=by omega
 by_cases c_lk:20<S.lk.n
 · have z_lk:(20:Int)<(S.lk.n:Int):=by omega
   have EV:=hid (NO.out (fun g=>by have:=g.zlk;rw [LE_lk.out] at this;omega));clear c_lk
   go_enter Tryz.func19,Tryz.ntmps19
   go_wp2;go_ret;exact ⟨by rw [EV.out];rfl,B0.out⟩
 have z_lk:¬(20:Int)<(S.lk.n:Int):=by omega
 by_cases c_dm:48<S.dm.n
 · have z_dm:(48:Int)<(S.dm.n:Int):=by omega
   have EV:=hid (NO.out (fun g=>by have:=g.zdm;rw [LE_dm.out] at this;omega));clear c_dm
   go_enter Tryz.func19,Tryz.ntmps19
   go_wp2;go_ret;exact ⟨by rw [EV.out];rfl,B0.out⟩
 have z_dm:¬(48:Int)<(S.dm.n:Int):=by omega
 by_cases c_st:64<S.st.n
 · have z_st:(64:Int)<(S.st.n:Int):=by omega
   have EV:=hid (NO.out (fun g=>by have:=g.zst;rw [LE_st.out] at this;omega));clear c_st
   go_enter Tryz.func19,Tryz.ntmps19
   go_wp2;go_ret;exact ⟨by rw [EV.out];rfl,B0.out⟩
 have z_st:¬(64:Int)<(S.st.n:Int):=by omega
 by_cases c_fl:48<S.fl.n
 · have z_fl:(48:Int)<(S.fl.n:Int):=by omega
   have EV:=hid (NO.out (fun g=>by have:=g.zfl;rw [LE_fl.out] at this;omega));clear c_fl
   go_enter Tryz.func19,Tryz.ntmps19
   go_wp2;go_ret;exact ⟨by rw [EV.out];rfl,B0.out⟩
 have z_fl:¬(48:Int)<(S.fl.n:Int):=by omega
 by_cases c_vr:16<S.vr.n
 · have z_vr:(16:Int)<(S.vr.n:Int):=by omega
   have EV:=hid (NO.out (fun g=>by have:=g.zvr;rw [LE_vr.out] at this;omega));clear c_vr
   go_enter Tryz.func19,Tryz.ntmps19
   go_wp2;go_ret;exact ⟨by rw [EV.out];rfl,B0.out⟩
 have z_vr:¬(16:Int)<(S.vr.n:Int):=by omega
 by_cases c_ir:48<S.ir.n
 · have z_ir:(48:Int)<(S.ir.n:Int):=by omega
   have EV:=hid (NO.out (fun g=>by have:=g.zir;rw [LE_ir.out] at this;omega));clear c_ir
   go_enter Tryz.func19,Tryz.ntmps19
   go_wp2;go_ret;exact ⟨by rw [EV.out];rfl,B0.out⟩
 have z_ir:¬(48:Int)<(S.ir.n:Int):=by omega
 have SZ:=hid (show N.devices.length≤8∧N.ports.length≤40∧N.links.length≤20∧N.domains.length≤48∧N.statics.length≤64∧N.floods.length≤48∧N.vrfs.length≤16∧N.irbs.length≤48 from ⟨by rw [LE_dv.out];omega,by rw [LE_pt.out];omega,by rw [LE_lk.out];omega,by rw [LE_dm.out];omega,by rw [LE_st.out];omega,by rw [LE_fl.out];omega,by rw [LE_vr.out];omega,by rw [LE_ir.out];omega⟩);clear c_dv c_pt c_lk c_dm c_st c_fl c_vr c_ir
 cases v1
 · have EV:=hid (NO.out (F1.out rfl))
   go_enter Tryz.func19,Tryz.ntmps19
   go_wp2_with (first
    |(go_at_call 45;(with_reducible refine (D1.out _ B0.out).mono ?_);rintro e w1_ ⟨rfl,b1_⟩;have Y1:=hid (b1_);obtain ⟨⟨f0,f1,f2,f3,f4,f5,f6,f7⟩,hB⟩:=KN.out w1_ Y1.out;have X1:=hid hB;clear hB b1_))
   go_ret;exact ⟨by rw [EV.out];rfl,X1.out⟩
 cases v2
 · have EV:=hid (NO.out (F2.out rfl))
   go_enter Tryz.func19,Tryz.ntmps19
   go_wp2_with (first
    |(go_at_call 45;(with_reducible refine (D1.out _ B0.out).mono ?_);rintro e w1_ ⟨rfl,b1_⟩;have Y1:=hid (b1_);obtain ⟨⟨f0,f1,f2,f3,f4,f5,f6,f7⟩,hB⟩:=KN.out w1_ Y1.out;have X1:=hid hB;clear hB b1_)
    |(go_at_call 46;(with_reducible refine (D2.out _ X1.out).mono ?_);rintro e w2_ ⟨rfl,b2_⟩;have Y2:=hid (vAa Y1.out b2_);obtain ⟨⟨f0,f1,f2,f3,f4,f5,f6,f7⟩,hB⟩:=KN.out w2_ Y2.out;have X2:=hid hB;clear hB b2_))
   go_ret;exact ⟨by rw [EV.out];rfl,X2.out⟩
 cases v3
 · have EV:=hid (NO.out (F3.out rfl))
   go_enter Tryz.func19,Tryz.ntmps19
   go_wp2_with (first
    |(go_at_call 45;(with_reducible refine (D1.out _ B0.out).mono ?_);rintro e w1_ ⟨rfl,b1_⟩;have Y1:=hid (b1_);obtain ⟨⟨f0,f1,f2,f3,f4,f5,f6,f7⟩,hB⟩:=KN.out w1_ Y1.out;have X1:=hid hB;clear hB b1_)
    |(go_at_call 46;(with_reducible refine (D2.out _ X1.out).mono ?_);rintro e w2_ ⟨rfl,b2_⟩;have Y2:=hid (vAa Y1.out b2_);obtain ⟨⟨f0,f1,f2,f3,f4,f5,f6,f7⟩,hB⟩:=KN.out w2_ Y2.out;have X2:=hid hB;clear hB b2_)
    |(go_at_call 47;(with_reducible refine (D3.out _ X2.out).mono ?_);rintro e w3_ ⟨rfl,b3_⟩;have Y3:=hid (vAa Y2.out b3_);obtain ⟨⟨f0,f1,f2,f3,f4,f5,f6,f7⟩,hB⟩:=KN.out w3_ Y3.out;have X3:=hid hB;clear hB b3_))
   go_ret;exact ⟨by rw [EV.out];rfl,X3.out⟩
 cases v4
 · have EV:=hid (NO.out (F4.out rfl))
   go_enter Tryz.func19,Tryz.ntmps19
   go_wp2_with (first
    |(go_at_call 45;(with_reducible refine (D1.out _ B0.out).mono ?_);rintro e w1_ ⟨rfl,b1_⟩;have Y1:=hid (b1_);obtain ⟨⟨f0,f1,f2,f3,f4,f5,f6,f7⟩,hB⟩:=KN.out w1_ Y1.out;have X1:=hid hB;clear hB b1_)
    |(go_at_call 46;(with_reducible refine (D2.out _ X1.out).mono ?_);rintro e w2_ ⟨rfl,b2_⟩;have Y2:=hid (vAa Y1.out b2_);obtain ⟨⟨f0,f1,f2,f3,f4,f5,f6,f7⟩,hB⟩:=KN.out w2_ Y2.out;have X2:=hid hB;clear hB b2_)
    |(go_at_call 47;(with_reducible refine (D3.out _ X2.out).mono ?_);rintro e w3_ ⟨rfl,b3_⟩;have Y3:=hid (vAa Y2.out b3_);obtain ⟨⟨f0,f1,f2,f3,f4,f5,f6,f7⟩,hB⟩:=KN.out w3_ Y3.out;have X3:=hid hB;clear hB b3_)
    |(go_at_call 48;(with_reducible refine (D4.out _ X3.out).mono ?_);rintro e w4_ ⟨rfl,b4_⟩;have Y4:=hid (vAa Y3.out b4_);obtain ⟨⟨f0,f1,f2,f3,f4,f5,f6,f7⟩,hB⟩:=KN.out w4_ Y4.out;have X4:=hid hB;clear hB b4_))
   go_ret;exact ⟨by rw [EV.out];rfl,X4.out⟩
 have EV:=hid (YES.out ⟨SZ.out.1,SZ.out.2.1,SZ.out.2.2.1,SZ.out.2.2.2.1,SZ.out.2.2.2.2.1,SZ.out.2.2.2.2.2.1,SZ.out.2.2.2.2.2.2.1,SZ.out.2.2.2.2.2.2.2,T1.out rfl,T2.out rfl,T3.out rfl,T4.out rfl⟩)
 go_enter Tryz.func19,Tryz.ntmps19
 go_wp2_with (first
  |(go_at_call 45;(with_reducible refine (D1.out _ B0.out).mono ?_);rintro e w1_ ⟨rfl,b1_⟩;have Y1:=hid (b1_);obtain ⟨⟨f0,f1,f2,f3,f4,f5,f6,f7⟩,hB⟩:=KN.out w1_ Y1.out;have X1:=hid hB;clear hB b1_)
  |(go_at_call 46;(with_reducible refine (D2.out _ X1.out).mono ?_);rintro e w2_ ⟨rfl,b2_⟩;have Y2:=hid (vAa Y1.out b2_);obtain ⟨⟨f0,f1,f2,f3,f4,f5,f6,f7⟩,hB⟩:=KN.out w2_ Y2.out;have X2:=hid hB;clear hB b2_)
  |(go_at_call 47;(with_reducible refine (D3.out _ X2.out).mono ?_);rintro e w3_ ⟨rfl,b3_⟩;have Y3:=hid (vAa Y2.out b3_);obtain ⟨⟨f0,f1,f2,f3,f4,f5,f6,f7⟩,hB⟩:=KN.out w3_ Y3.out;have X3:=hid hB;clear hB b3_)
  |(go_at_call 48;(with_reducible refine (D4.out _ X3.out).mono ?_);rintro e w4_ ⟨rfl,b4_⟩;have Y4:=hid (vAa Y3.out b4_);obtain ⟨⟨f0,f1,f2,f3,f4,f5,f6,f7⟩,hB⟩:=KN.out w4_ Y4.out;have X4:=hid hB;clear hB b4_))
 go_ret;exact ⟨by rw [EV.out];rfl,X4.out⟩
def TyI (w:World) (b:Nat):Prop:=∃cur T,w.heap[b]?=some (.cells cur T)∧(T=3∨T=33)
theorem TyI.lt {w:World} {b:Nat} (h:TyI w b):b<w.heap.size:=by
 obtain ⟨cur,T,h,_⟩:=h
 rcases Nat.lt_or_ge b w.heap.size with h'|h'
 · exact h'
 · rw [Array.getElem?_eq_none h'] at h;cases h
theorem TyI.same {w w':World} {b:Nat} (h:TyI w b) (e:w'.heap[b]?=w.heap[b]?):TyI w' b:=by
 obtain ⟨cur,T,h,g⟩:=h;exact ⟨cur,T,e.trans h,g⟩
theorem TyI.below {w w':World} {b:Nat} (h:TyI w b) (hb:Below w.heap.size w w'):TyI w' b:=h.same (hb.block b h.lt)
theorem TyI.live {w:World} {b:Nat} (h:TyI w b) (o:Nat):w.frozen? ⟨b,o,none⟩=false:=by
 obtain ⟨cur,T,h,_⟩:=h;simp [World.frozen?,h]
theorem own_ty {w:World} {B:Nat} {e:TypeId} {A:Option Addr} {n m c sz:Nat} {xs:List Value} (h:w.ownsRow B e sz (.slice A n c) m xs) (he:e=3∨e=33):∀ad,A=some ad→B≤ad.block∧TyI w ad.block:=fun ad hA=>by
 rcases h.2 with ⟨hv,_⟩|⟨g,cap,cur,hv,hB,hh,_⟩
 · injection hv with e1;rw [hA] at e1;cases e1
 · injection hv with e1
   rw [hA] at e1
   cases e1
   exact ⟨hB,cur,e,hh,he⟩
open Go.Lib (byteCells)
def u8 (x:Int):UInt8:=UInt8.ofNat x.toNat
section
variable {w w':World} {A:Option Addr} {n c:Nat} {l:List UInt8}
end
open Go.Lib (byteCells)
open Go.Lib (byteCells)
open Go.Lib (byteCells)
open Go.Lib (byteCells)
open Go.Lib (byteCells)
section
variable {w w':World} {q:Nat} {v0 v1 v2 v3:Value}
end
open Go.Lib (byteCells)
def Ex (q:Nat) (w w':World):Prop:=w'.os=w.os∧w'.tape=w.tape∧w'.output=w.output∧w.heap.size≤w'.heap.size∧∀k,k≠q→k<w.heap.size→w'.heap[k]?=w.heap[k]?
section
variable {q:Nat} {w w' w'':World}
theorem Ex.of_below (h:Below w.heap.size w w'):Ex q w w':=⟨h.os,h.tape,h.output,h.size,fun k _ hk=>h.block k hk⟩
theorem Ex.refl (q:Nat) (w:World):Ex q w w:=Ex.of_below (Below.refl _ _)
theorem Ex.trans (h:Ex q w w') (g:Ex q w' w''):Ex q w w'':=by
 obtain ⟨h0,h1,h2,h3,h4⟩:=h;obtain ⟨g0,g1,g2,g3,g4⟩:=g;exact ⟨g0.trans h0,g1.trans h1,g2.trans h2,Nat.le_trans h3 g3,fun k hq hk=>(g4 k hq (by omega)).trans (h4 k hq hk)⟩
theorem Ex.set (h:Ex q w w') (j:Nat) (v:Value):Ex q w (w'.setCell ⟨q,j,none⟩ v):=
 h.trans ⟨rfl,rfl,rfl,by simp [World.setCell],fun k hk _=>Below.heap_setCell _ _ _ _ hk⟩
theorem Ex.drewN (h:Ex q w w') (m:Nat):Ex q w (w'.drewN m):=h
theorem Ex.size (h:Ex q w w'):w.heap.size≤w'.heap.size:=h.2.2.2.1
theorem Ex.cell (h:Ex q w w') {b:Nat} (o:Nat) (hb:b<w.heap.size) (hq:b≠q):w'.cell? ⟨b,o,none⟩=w.cell? ⟨b,o,none⟩:=World.cell?_of_block (w:=w) (h.2.2.2.2 b hq hb)
theorem Ex.frozen (h:Ex q w w') {b:Nat} (o:Nat) (hb:b<w.heap.size) (hq:b≠q):w'.frozen? ⟨b,o,none⟩=w.frozen? ⟨b,o,none⟩:=World.frozen?_of_block (w:=w) (h.2.2.2.2 b hq hb)
theorem Below.ex {B:Nat} {a:World} (g:Below B a w) (h:Ex q w w') (hB:B≤q) (hs:B≤w.heap.size):Below B a w':=
 g.trans ⟨h.1,h.2.1,h.2.2.1,h.2.2.2.1,fun k hk=>h.2.2.2.2 k (by omega) (by omega)⟩
end
section
variable {w w':World} {q:Nat} {v0 v1 v2 v3 v4 v5 v6 v7 v8 x:Value}
end
structure LV where
 row:Int
 kind:Int
 dev:List UInt8
 port:List UInt8
 peer:List UInt8
 far:List UInt8
 name:List UInt8
 mac:Int
 addr:Int
 bits:Int
 vlan:Int
 num:Int
 cost:Int
 tagged:List Int
 imports:List Int
 exports:List Int
 addrs:List Int
structure SlV where
 A:Option Addr
 n:Nat
 c:Nat
def SlV.val (s:SlV):Value:=.slice s.A s.n s.c
def SlV.nil:SlV:=⟨none,0,0⟩
def FSl (w:World) (q:Nat) (k:IntKind) (s:SlV) (xs:List Int):Prop:=ISl w k s.A s.n s.c xs∧∀ad,s.A=some ad→q<ad.block
section
variable {w w':World} {q:Nat} {k:IntKind} {s:SlV} {xs:List Int}
theorem FSl.nil:FSl w q k SlV.nil []:=⟨ISl.nil,fun _ h=>by cases h⟩
theorem FSl.mono {p:Nat} (h:FSl w q k s xs) (hp:p≤q):FSl w p k s xs:=⟨h.1,fun ad g=>Nat.lt_of_le_of_lt hp (h.2 ad g)⟩
theorem FSl.below (h:FSl w q k s xs) (hb:Below w.heap.size w w'):FSl w' q k s xs:=⟨h.1.below hb,h.2⟩
theorem FSl.set (h:FSl w q k s xs) (j:Nat) (v:Value):FSl (w.setCell ⟨q,j,none⟩ v) q k s xs:=by
 refine ⟨⟨h.1.1,h.1.2.1,h.1.2.2.1,fun hn=>?_⟩,h.2⟩;obtain ⟨b,off,e,hb,hc⟩:=h.1.2.2.2 hn;refine ⟨b,off,e,by simpa using hb,fun i hi=>?_⟩;rw [World.cell?_setCell_other _ _ _ _ (by intro e1;injection e1 with e2 _;have h2:q<b:=h.2 _ e;omega)];exact hc i hi
theorem FSl.ex (h:FSl w q k s xs) (g:Ex q w w'):FSl w' q k s xs:=by
 refine ⟨⟨h.1.1,h.1.2.1,h.1.2.2.1,fun hn=>?_⟩,h.2⟩;obtain ⟨b,off,e,hb,hc⟩:=h.1.2.2.2 hn;exact ⟨b,off,e,Nat.lt_of_lt_of_le hb g.size,fun i hi=>(g.cell (off+i) hb (by have h2:q<b:=h.2 _ e;omega)).trans (hc i hi)⟩
end
def BoxF (w:World) (q n:Nat) (f:Nat→Value):Prop:=(∀j,j<n→w.cell? ⟨q,j,none⟩=some (f j))∧∀o,w.frozen? ⟨q,o,none⟩=false
section
variable {w w':World} {q n:Nat} {f g:Nat→Value}
theorem BoxF.cell (h:BoxF w q n f) (j:Nat) (hj:j<n):w.cell? ⟨q,j,none⟩=some (f j):=h.1 j hj
theorem BoxF.lt (h:BoxF w q n f) (hn:0<n):q<w.heap.size:=World.block_lt_of_cell? w _ (h.1 0 hn)
theorem BoxF.same (h:BoxF w q n f) (hc:∀o,w'.cell? ⟨q,o,none⟩=w.cell? ⟨q,o,none⟩) (hf:∀o,w'.frozen? ⟨q,o,none⟩=w.frozen? ⟨q,o,none⟩):BoxF w' q n f:=
 ⟨fun j hj=>(hc j).trans (h.1 j hj),fun o=>(hf o).trans (h.2 o)⟩
theorem BoxF.below (h:BoxF w q n f) (hn:0<n) (b:Below w.heap.size w w'):BoxF w' q n f:=
 h.same (fun o=>b.cell (p:=⟨q,o,none⟩) (h.lt hn)) (fun o=>b.frozen (p:=⟨q,o,none⟩) (h.lt hn))
theorem BoxF.set (h:BoxF w q n f) (j:Nat) (hj:j<n) (v:Value):BoxF (w.setCell ⟨q,j,none⟩ v) q n (fun i=>if i=j then v else f i):=by
 refine ⟨fun i hi=>?_,fun o=>(World.frozen?_setCell _ _ _ _).trans (h.2 o)⟩
 show _=some (if i=j then v else f i)
 by_cases e:i=j
 · subst e
   rw [if_pos rfl];exact World.cell?_setCell_same _ _ _ (h.1 i hi)
 · rw [if_neg e,World.cell?_setCell_other _ _ _ _ (by intro e1;injection e1 with _ e2;exact e e2.symm)]
   exact h.1 i hi
theorem BoxF.is (h:BoxF w q n f) (e:∀i,i<n→f i=g i):BoxF w q n g:=⟨fun j hj=>by rw [←e j hj];exact h.1 j hj,h.2⟩
end
def lc (L:LV) (s1 s2 s3 s4:SlV):Nat→Value
 |0=>.int .i64 L.row
 |1=>.int .i64 L.kind
 |2=>.string (str L.dev)
 |3=>.string (str L.port)
 |4=>.string (str L.peer)
 |5=>.string (str L.far)
 |6=>.string (str L.name)
 |7=>.int .u64 L.mac
 |8=>.int .u32 L.addr
 |9=>.int .i64 L.bits
 |10=>.int .i64 L.vlan
 |11=>.int .i64 L.num
 |12=>.int .i64 L.cost
 |13=>s1.val
 |14=>s2.val
 |15=>s3.val
 |_=>s4.val
def LBox (w:World) (q:Nat) (L:LV) (s1 s2 s3 s4:SlV):Prop:=
 BoxF w q 17 (lc L s1 s2 s3 s4)∧FSl w q .i64 s1 L.tagged∧FSl w q .i64 s2 L.imports∧FSl w q .i64 s3 L.exports∧FSl w q .u32 s4 L.addrs
section
variable {w w':World} {q:Nat} {L:LV} {s1 s2 s3 s4:SlV}
theorem LBox.lt (h:LBox w q L s1 s2 s3 s4):q<w.heap.size:=h.1.lt (by omega)
theorem LBox.below (h:LBox w q L s1 s2 s3 s4) (b:Below w.heap.size w w'):LBox w' q L s1 s2 s3 s4:=⟨h.1.below (by omega) b,h.2.1.below b,h.2.2.1.below b,h.2.2.2.1.below b,h.2.2.2.2.below b⟩
theorem LBox.drewN (h:LBox w q L s1 s2 s3 s4) (m:Nat):LBox (w.drewN m) q L s1 s2 s3 s4:=h
theorem LBox.frozen (h:LBox w q L s1 s2 s3 s4):∀o,w.frozen? ⟨q,o,none⟩=false:=h.1.2
theorem LBox.cells (h:LBox w q L s1 s2 s3 s4):w.cell? ⟨q,0,none⟩=some (.int .i64 L.row)∧w.cell? ⟨q,1,none⟩=some (.int .i64 L.kind)∧w.cell? ⟨q,2,none⟩=some (.string (str L.dev))∧w.cell? ⟨q,3,none⟩=some (.string (str L.port))∧w.cell? ⟨q,4,none⟩=some (.string (str L.peer))∧w.cell? ⟨q,5,none⟩=some (.string (str L.far))∧w.cell? ⟨q,6,none⟩=some (.string (str L.name))∧w.cell? ⟨q,7,none⟩=some (.int .u64 L.mac)∧w.cell? ⟨q,8,none⟩=some (.int .u32 L.addr)∧w.cell? ⟨q,9,none⟩=some (.int .i64 L.bits)∧w.cell? ⟨q,10,none⟩=some (.int .i64 L.vlan)∧w.cell? ⟨q,11,none⟩=some (.int .i64 L.num)∧w.cell? ⟨q,12,none⟩=some (.int .i64 L.cost)∧w.cell? ⟨q,13,none⟩=some (.slice s1.A s1.n s1.c)∧w.cell? ⟨q,14,none⟩=some (.slice s2.A s2.n s2.c)∧w.cell? ⟨q,15,none⟩=some (.slice s3.A s3.n s3.c)∧w.cell? ⟨q,16,none⟩=some (.slice s4.A s4.n s4.c):=⟨h.1.cell 0 (by omega),h.1.cell 1 (by omega),h.1.cell 2 (by omega),h.1.cell 3 (by omega),h.1.cell 4 (by omega),h.1.cell 5 (by omega),h.1.cell 6 (by omega),h.1.cell 7 (by omega),h.1.cell 8 (by omega),h.1.cell 9 (by omega),h.1.cell 10 (by omega),h.1.cell 11 (by omega),h.1.cell 12 (by omega),h.1.cell 13 (by omega),h.1.cell 14 (by omega),h.1.cell 15 (by omega),h.1.cell 16 (by omega)⟩
theorem LBox.set_dev (h:LBox w q L s1 s2 s3 s4) (x:List UInt8):LBox (w.setCell ⟨q,2,none⟩ (.string (str x))) q {L with dev:=x} s1 s2 s3 s4:=
 ⟨(h.1.set 2 (by omega) _).is (fun i hi=>match i,hi with|0,_|1,_|2,_|3,_|4,_|5,_|6,_|7,_|8,_|9,_|10,_|11,_|12,_|13,_|14,_|15,_|16,_=>rfl|i+17,h=>absurd h (by omega)),h.2.1.set _ _,h.2.2.1.set _ _,h.2.2.2.1.set _ _,h.2.2.2.2.set _ _⟩
theorem LBox.set_port (h:LBox w q L s1 s2 s3 s4) (x:List UInt8):LBox (w.setCell ⟨q,3,none⟩ (.string (str x))) q {L with port:=x} s1 s2 s3 s4:=
 ⟨(h.1.set 3 (by omega) _).is (fun i hi=>match i,hi with|0,_|1,_|2,_|3,_|4,_|5,_|6,_|7,_|8,_|9,_|10,_|11,_|12,_|13,_|14,_|15,_|16,_=>rfl|i+17,h=>absurd h (by omega)),h.2.1.set _ _,h.2.2.1.set _ _,h.2.2.2.1.set _ _,h.2.2.2.2.set _ _⟩
theorem LBox.set_peer (h:LBox w q L s1 s2 s3 s4) (x:List UInt8):LBox (w.setCell ⟨q,4,none⟩ (.string (str x))) q {L with peer:=x} s1 s2 s3 s4:=
 ⟨(h.1.set 4 (by omega) _).is (fun i hi=>match i,hi with|0,_|1,_|2,_|3,_|4,_|5,_|6,_|7,_|8,_|9,_|10,_|11,_|12,_|13,_|14,_|15,_|16,_=>rfl|i+17,h=>absurd h (by omega)),h.2.1.set _ _,h.2.2.1.set _ _,h.2.2.2.1.set _ _,h.2.2.2.2.set _ _⟩
theorem LBox.set_far (h:LBox w q L s1 s2 s3 s4) (x:List UInt8):LBox (w.setCell ⟨q,5,none⟩ (.string (str x))) q {L with far:=x} s1 s2 s3 s4:=
 ⟨(h.1.set 5 (by omega) _).is (fun i hi=>match i,hi with|0,_|1,_|2,_|3,_|4,_|5,_|6,_|7,_|8,_|9,_|10,_|11,_|12,_|13,_|14,_|15,_|16,_=>rfl|i+17,h=>absurd h (by omega)),h.2.1.set _ _,h.2.2.1.set _ _,h.2.2.2.1.set _ _,h.2.2.2.2.set _ _⟩
theorem LBox.set_name (h:LBox w q L s1 s2 s3 s4) (x:List UInt8):LBox (w.setCell ⟨q,6,none⟩ (.string (str x))) q {L with name:=x} s1 s2 s3 s4:=
 ⟨(h.1.set 6 (by omega) _).is (fun i hi=>match i,hi with|0,_|1,_|2,_|3,_|4,_|5,_|6,_|7,_|8,_|9,_|10,_|11,_|12,_|13,_|14,_|15,_|16,_=>rfl|i+17,h=>absurd h (by omega)),h.2.1.set _ _,h.2.2.1.set _ _,h.2.2.2.1.set _ _,h.2.2.2.2.set _ _⟩
theorem LBox.set_addr (h:LBox w q L s1 s2 s3 s4) (x:Int):LBox (w.setCell ⟨q,8,none⟩ (.int .u32 x)) q {L with addr:=x} s1 s2 s3 s4:=
 ⟨(h.1.set 8 (by omega) _).is (fun i hi=>match i,hi with|0,_|1,_|2,_|3,_|4,_|5,_|6,_|7,_|8,_|9,_|10,_|11,_|12,_|13,_|14,_|15,_|16,_=>rfl|i+17,h=>absurd h (by omega)),h.2.1.set _ _,h.2.2.1.set _ _,h.2.2.2.1.set _ _,h.2.2.2.2.set _ _⟩
theorem LBox.set_vlan (h:LBox w q L s1 s2 s3 s4) (x:Int):LBox (w.setCell ⟨q,10,none⟩ (.int .i64 x)) q {L with vlan:=x} s1 s2 s3 s4:=
 ⟨(h.1.set 10 (by omega) _).is (fun i hi=>match i,hi with|0,_|1,_|2,_|3,_|4,_|5,_|6,_|7,_|8,_|9,_|10,_|11,_|12,_|13,_|14,_|15,_|16,_=>rfl|i+17,h=>absurd h (by omega)),h.2.1.set _ _,h.2.2.1.set _ _,h.2.2.2.1.set _ _,h.2.2.2.2.set _ _⟩
theorem LBox.set_num (h:LBox w q L s1 s2 s3 s4) (x:Int):LBox (w.setCell ⟨q,11,none⟩ (.int .i64 x)) q {L with num:=x} s1 s2 s3 s4:=
 ⟨(h.1.set 11 (by omega) _).is (fun i hi=>match i,hi with|0,_|1,_|2,_|3,_|4,_|5,_|6,_|7,_|8,_|9,_|10,_|11,_|12,_|13,_|14,_|15,_|16,_=>rfl|i+17,h=>absurd h (by omega)),h.2.1.set _ _,h.2.2.1.set _ _,h.2.2.2.1.set _ _,h.2.2.2.2.set _ _⟩
theorem LBox.set_addrs (h:LBox w q L s1 s2 s3 s4) (t:SlV) (xs:List Int) (ht:FSl w q .u32 t xs):LBox (w.setCell ⟨q,16,none⟩ (.slice t.A t.n t.c)) q {L with addrs:=xs} s1 s2 s3 t:=
 ⟨(h.1.set 16 (by omega) _).is (fun i hi=>match i,hi with|0,_|1,_|2,_|3,_|4,_|5,_|6,_|7,_|8,_|9,_|10,_|11,_|12,_|13,_|14,_|15,_|16,_=>rfl|i+17,h=>absurd h (by omega)),h.2.1.set _ _,h.2.2.1.set _ _,h.2.2.2.1.set _ _,ht.set _ _⟩
end
abbrev lA (L:LV) (s1 s2 s3 s4:SlV):Array Value:=#[.int .i64 L.row,.int .i64 L.kind,.string (str L.dev),.string (str L.port),.string (str L.peer),.string (str L.far),.string (str L.name),.int .u64 L.mac,.int .u32 L.addr,.int .i64 L.bits,.int .i64 L.vlan,.int .i64 L.num,.int .i64 L.cost,.slice s1.A s1.n s1.c,.slice s2.A s2.n s2.c,.slice s3.A s3.n s3.c,.slice s4.A s4.n s4.c]
def vAv (L:LV) (s1 s2 s3 s4:SlV):Value:=.agg #[.int .i64 L.row,.int .i64 L.kind,.string (str L.dev),.string (str L.port),.string (str L.peer),.string (str L.far),.string (str L.name),.int .u64 L.mac,.int .u32 L.addr,.int .i64 L.bits,.int .i64 L.vlan,.int .i64 L.num,.int .i64 L.cost,.slice s1.A s1.n s1.c,.slice s2.A s2.n s2.c,.slice s3.A s3.n s3.c,.slice s4.A s4.n s4.c]
def LRead (w:World) (L:LV) (s1 s2 s3 s4:SlV):Prop:=ISl w .i64 s1.A s1.n s1.c L.tagged∧ISl w .i64 s2.A s2.n s2.c L.imports∧ISl w .i64 s3.A s3.n s3.c L.exports∧ISl w .u32 s4.A s4.n s4.c L.addrs
def LV.zero:LV:=⟨0,0,[],[],[],[],[],0,0,0,0,0,0,[],[],[],[]⟩
theorem LRead.zero {w:World}:LRead w LV.zero SlV.nil SlV.nil SlV.nil SlV.nil:=⟨ISl.nil,ISl.nil,ISl.nil,ISl.nil⟩
theorem LBox.read {w:World} {q:Nat} {L:LV} {s1 s2 s3 s4:SlV} (h:LBox w q L s1 s2 s3 s4):LRead w L s1 s2 s3 s4:=⟨h.2.1.1,h.2.2.1.1,h.2.2.2.1.1,h.2.2.2.2.1⟩
theorem Ex.cells {q:Nat}:∀(vs:List Value) (o:Nat) (w w':World),Ex q w w'→Ex q w (w'.setCells q o vs)
 | [],_,_,_,h=>h
 |v :: r,o,w,_,h=>Ex.cells r (o+1) w _ (h.set o v)
theorem there_all {w:World} {q n:Nat} (hc:∀j,j<n→(w.cell? ⟨q,j,none⟩).isSome=true) (hf:∀o,w.frozen? ⟨q,o,none⟩=false):w.there q 0 n:=fun j hj=>by
 rw [Nat.zero_add];exact ⟨hc j hj,hf j⟩
theorem wpList_put {P:Program} {ops:Array Oper} {rest:List Oper} {op:Oper} {a:Act} {w:World} {Q:Exit→Act→World→Prop} (hgd:op.guard=none) (ty:TypeId) (x y:Operand) (ho:op.op=.store ty x y)
 (p:Nat) (hx:a.eval x=.pointer (some ⟨p,0,none⟩)) (cells:Array Value) (hy:a.eval y=.agg cells) (hc:∀j,j<cells.size→(w.cell? ⟨p,j,none⟩).isSome=true) (hf:∀o,w.frozen? ⟨p,o,none⟩=false)
 (hi:(P.info? ty).map (·.size)=some cells.size) (h1:cells.all (·.oneCell')=true)
 (h:∀w9,(∀(j:Nat) (v:Value),cells.toList[j]?=some v→w9.cell? ⟨p,j,none⟩=some v)→(∀o,w9.frozen? ⟨p,o,none⟩=false)→Ex p w w9→wpList P ops Q rest (a.put op.dst undef) w9):wpList P ops Q (op :: rest) a w:=by
 have ht:w.there p 0 cells.size:=there_all hc hf;refine wpList_store_mid hgd ty x y ho p 0 cells hx hy ht hi h1 (h _ (fun j v hv=>?_) (fun o=>by rw [World.frozen?_setCells];exact hf o) (Ex.cells _ 0 w w (Ex.refl _ _)))
 have:=World.rangeAt_setCells_same w p 0 cells.toList (by simpa using ht) j v hv
 rwa [Nat.zero_add] at this
theorem vHc:(Tryz.prog.info? 37).map (·.size)=some 17:=by kernel_rfl
theorem line_desc:∃d,Tryz.prog.underlying 37=some d∧d.isRow=true:=⟨_,Tryz.underlying37,rfl⟩
theorem BoxF.ex {w w':World} {q p n:Nat} {f:Nat→Value} (h:BoxF w p n f) (hn:0<n) (g:Ex q w w') (hp:p≠q):BoxF w' p n f:=
 h.same (fun o=>g.cell o (h.lt hn) hp) (fun o=>g.frozen o (h.lt hn) hp)
theorem LBox.ex {w w':World} {q p:Nat} {L:LV} {s1 s2 s3 s4:SlV} (h:LBox w q L s1 s2 s3 s4) (g:Ex p w w') (hp:p<q):LBox w' q L s1 s2 s3 s4:=by
 have key:∀(k:IntKind) (s:SlV) (xs:List Int),FSl w q k s xs→FSl w' q k s xs:=fun k s xs f=>⟨((f.mono (Nat.le_of_lt hp)).ex g).1,f.2⟩
 exact ⟨h.1.ex (by omega) g (by omega),key _ _ _ h.2.1,key _ _ _ h.2.2.1,key _ _ _ h.2.2.2.1,key _ _ _ h.2.2.2.2⟩
theorem LRead.ex {w w':World} {q p:Nat} {L:LV} {s1 s2 s3 s4:SlV} (h:LBox w q L s1 s2 s3 s4) (g:Ex p w w') (hp:p<q):LRead w' L s1 s2 s3 s4:=(h.ex g hp).read
theorem line_cells (L:LV) (s1 s2 s3 s4:SlV):∃C:Array Value,vAv L s1 s2 s3 s4=.agg C∧C.size=17:=⟨_,rfl,rfl⟩
theorem lc_list (L:LV) (s1 s2 s3 s4:SlV) (j:Nat) (hj:j<17) (C:Array Value) (hC:vAv L s1 s2 s3 s4=.agg C):C.toList[j]?=some (lc L s1 s2 s3 s4 j):=by
 injection hC with hC
 subst hC
 match j,hj with
 |0,_|1,_|2,_|3,_|4,_|5,_|6,_|7,_|8,_|9,_|10,_|11,_|12,_|13,_|14,_|15,_|16,_=>rfl
 |j+17,h=>exact absurd h (by omega)
theorem vGl {ops:Array Oper} {rest:List Oper} {op:Oper} {a:Act} {w:World} {Q:Exit→Act→World→Prop} (hgd:op.guard=none) (x y:Operand) (ho:op.op=.store 37 x y)
 (p:Nat) (hx:a.eval x=.pointer (some ⟨p,0,none⟩)) (L:LV) (s1 s2 s3 s4:SlV) (hy:a.eval y=vAv L s1 s2 s3 s4) (g:Nat→Value) (hb:BoxF w p 17 g)
 (h:∀w9,BoxF w9 p 17 (lc L s1 s2 s3 s4)→Ex p w w9→wpList Tryz.prog ops Q rest (a.put op.dst undef) w9):wpList Tryz.prog ops Q (op :: rest) a w:=by
 obtain ⟨C,hC⟩:∃C,vAv L s1 s2 s3 s4=.agg C:=⟨_,rfl⟩
 have hs:C.size=17:=by injection hC with hC;subst hC;rfl
 have h1:C.all (·.oneCell')=true:=by injection hC with hC;subst hC;simp [Value.oneCell']
 refine wpList_put hgd 37 x y ho p hx C (hy.trans hC) (fun j hj=>by rw [hb.1 j (by omega)];rfl) hb.2 (by rw [hs];exact vHc) h1 (fun w9 h2 h3 h4=>h w9 ⟨fun j hj=>h2 j _ (lc_list L s1 s2 s3 s4 j hj C hC),h3⟩ h4)
theorem vAf {ops:Array Oper} {rest:List Oper} {op:Oper} {a:Act} {w:World} {Q:Exit→Act→World→Prop} (hgd:Region.wanted op (yielded ops a.tmps)=true) (x:Operand) (ho:op.op=.load 37 x)
 (p:Nat) (hx:a.eval x=.pointer (some ⟨p,0,none⟩)) (L:LV) (s1 s2 s3 s4:SlV) (hb:BoxF w p 17 (lc L s1 s2 s3 s4))
 (h:wpList Tryz.prog ops Q rest (a.put op.dst (vAv L s1 s2 s3 s4)) w):wpList Tryz.prog ops Q (op :: rest) a w:=by
 obtain ⟨d,hd1,hd2⟩:=line_desc;obtain ⟨C,hC,hs⟩:=line_cells L s1 s2 s3 s4;have hl:C.toList.length=17:=Array.length_toList.trans hs;have e:C.toList.toArray=C:=Array.toArray_toList
 have h2:wpList Tryz.prog ops Q rest (a.put op.dst (.agg C.toList.toArray)) w:=by rw [e,←hC];exact h
 refine wpList_step fun K hK=>?_
 rw [if_pos hgd];refine wp_load_mid 37 x ho p 0 hx C.toList d (fun j v hv=>?_) hd1 hd2 (by rw [hl];exact vHc) (hK _ _ h2)
 have hj:j<17:=by rw [←hl];exact (List.getElem?_eq_some_iff.1 hv).1
 rw [lc_list L s1 s2 s3 s4 j hj C hC] at hv;rw [Nat.zero_add,hb.1 j hj,hv]
theorem zero_box (w:World) (T:TypeId):BoxF (w.alloc (.cells #[.int .i64 0,.int .i64 0,.string ⟨#[]⟩,.string ⟨#[]⟩,.string ⟨#[]⟩,.string ⟨#[]⟩,.string ⟨#[]⟩,.int .u64 0,.int .u32 0,.int .i64 0,.int .i64 0,.int .i64 0,.int .i64 0,.slice none 0 0,.slice none 0 0,.slice none 0 0,.slice none 0 0] T)) w.heap.size 17 (lc LV.zero SlV.nil SlV.nil SlV.nil SlV.nil):=by
 refine ⟨fun j hj=>?_,fun o=>by simp⟩
 match j,hj with
 |0,_|1,_|2,_|3,_|4,_|5,_|6,_|7,_|8,_|9,_|10,_|11,_|12,_|13,_|14,_|15,_|16,_=>simp [lc,LV.zero,SlV.nil,SlV.val,str]
 |j+17,h=>exact absurd h (by omega)
theorem alloc_line (ρ:Operand→Value) (o:Oper) (ho:o.op=.alloc 37) (w:World):
 (execOp ρ o).run Tryz.prog w=.ok (.value (.pointer (some ⟨w.heap.size,0,none⟩))) (w.alloc (.cells #[.int .i64 0,.int .i64 0,.string ⟨#[]⟩,.string ⟨#[]⟩,.string ⟨#[]⟩,.string ⟨#[]⟩,.string ⟨#[]⟩,.int .u64 0,.int .u32 0,.int .i64 0,.int .i64 0,.int .i64 0,.int .i64 0,.slice none 0 0,.slice none 0 0,.slice none 0 0,.slice none 0 0] 37)):=by
 unfold execOp;rw [ho];simp [Instr.alloc,newVar,newRow,go_sem]
theorem ISl.cells_ {w:World} {k:IntKind} {ad:Addr} {n c:Nat} {xs:List Int} (h:ISl w k (some ad) n c xs):∀j u,(xs.map (Value.int k))[j]?=some u→w.cell? (ad.add j)=some u:=by
 intro j u hu
 have hj:j<n:=by
  have:=(List.getElem?_eq_some_iff.1 hu).1
  rw [List.length_map,h.len] at this;exact this
 obtain ⟨b,off,e,_,hc⟩:=h.2.2.2 (by omega)
 cases e
 have e2:(xs.map (Value.int k))[j]?=some (.int k (xs.getD j 0)):=by
  rw [List.getElem?_map,List.getD,List.getElem?_eq_getElem (by rw [h.len];exact hj)]
  rfl
 rw [e2] at hu
 cases hu
 rw [←hc j hj]
 by_cases h0:j=0<;>simp [Addr.add,h0]
theorem vGa {xs ys:List Int} {n:Nat} (hx:xs.length=n) (hy:ys.length=n) (h:∀j,j<n→xs.getD j 0=ys.getD j 0):xs=ys:=by
 apply List.ext_getElem (by omega)
 intro j h1 h2
 have:=h j (by omega)
 simpa [List.getD,List.getElem?_eq_getElem h1,List.getElem?_eq_getElem h2] using this
theorem vDa (s:SlV) (xs:List Int) (x:Int) (w:World) (h:ISl w .i64 s.A s.n s.c xs):
 Calls Tryz.prog 122 #[.slice s.A s.n s.c,.int .i64 x] w fun e w'=>e=.returned (.bool (xs.contains x))∧w=w':=by
 obtain ⟨A,n,c⟩:=s;have hl:=h.len;have hle:=h.le;have hcap:=h.cap
 by_cases hn:0<n
 · obtain ⟨b,off,e,hb,hc⟩:=h.2.2.2 hn
   dsimp only at e hl hc ⊢;subst e;refine (Tryz.slices_Contains_int b off n c xs x w (by omega) (by dsimp only at hle hcap;omega) (fun j hj=>hc j (by omega))).mono ?_;rintro e w' ⟨rfl,rfl⟩;exact ⟨by rw [←hl,List.take_length],rfl⟩
 · dsimp only at hl ⊢
   obtain rfl:n=0:=by omega
   obtain rfl:xs=[]:=List.eq_nil_of_length_eq_zero hl;refine (Tryz.slices_Contains_int_empty A c x w).mono ?_;rintro e w' ⟨rfl,rfl⟩;exact ⟨rfl,rfl⟩
theorem tclone_any (l:List UInt8) (w:World) (hs:l.length≤1000000):
 Calls Tryz.prog 141 #[.string (str l)] w fun e w'=>e=.returned (.string (str l))∧Below w.heap.size w w':=by
 have hz:(str l).size≤281474976710656:=by rw [vBa];omega
 go_enter Tryz.func141,Tryz.ntmps141
 go_wp2_with (go_at_call 177;refine (Tryz.stringslite_Clone (str l) _ hz).mono ?_;rintro e w1 ⟨rfl,hb1⟩);go_ret;exact ⟨rfl,hb1⟩
theorem vEx (s t:SlV) (xs ys:List Int) (w:World) (h:ISl w .i64 s.A s.n s.c xs) (h2:ISl w .i64 t.A t.n t.c ys):
 Calls Tryz.prog 115 #[.slice s.A s.n s.c,.slice t.A t.n t.c] w fun e w'=>e=.returned (.bool (xs == ys))∧Drew w w':=by
 obtain ⟨A,n,c⟩:=s;obtain ⟨B,n2,c2⟩:=t;dsimp only at h h2 ⊢;have hle:=h.le;have hcap:=h.cap;have hle2:=h2.le;have hcap2:=h2.cap;have H:=hid h;have H2:=hid h2;clear h h2
 by_cases hne:n=n2
 · subst hne
   by_cases hn:0<n
   · obtain ⟨b,off,rfl,hb,hc⟩:=H.out.2.2.2 hn
     obtain ⟨b2,off2,rfl,hb2,hc2⟩:=H2.out.2.2.2 hn;have HC:=hid hc;have HC2:=hid hc2;clear hc hc2
     go_enter Tryz.func115,Tryz.ntmps115
     go_wp2
     go_loopw [13] (fun i wr=>∃k:Nat,k≤n∧i=.int .i64 (k:Int)∧(∀j,j<k→xs.getD j 0=ys.getD j 0)∧Drew w wr) (fun i _=>n - (intOf i).toNat)
     case atStart=>exact ⟨0,by omega,rfl,fun j hj=>absurd hj (by omega),Drew.refl _⟩
     case round=>
      obtain ⟨k,hk,rfl,hal,m,rfl⟩:=hrel;have AL:=hid hal;clear hal
      by_cases hlt:k<n
      · have c0:w.cell? ⟨b,off+k,none⟩=some (.int .i64 (xs.getD k 0)):=HC.out k hlt
        have c1:w.cell? ⟨b2,off2+k,none⟩=some (.int .i64 (ys.getD k 0)):=HC2.out k hlt;generalize hx:xs.getD k 0=x at c0;generalize hy:ys.getD k 0=y at c1;have HX:=hid hx;have HY:=hid hy;clear hx hy
        by_cases hxy:x=y
        · subst hxy
          go_wp2
          go_quiet (fail)
          go_wp2
          go_roundw
          case rel=>exact ⟨k+1,by omega,by go_num,fun j hj=>by
           by_cases e:j=k
           · subst e;rw [HX.out,HY.out]
           · exact AL.out j (by omega),⟨m+nq,rfl⟩⟩
          case measure=>simp [intOf];omega
        · have E:=hid (show (xs == ys)=false by
           rw [beq_eq_false_iff_ne];intro e;subst e
           exact hxy (HX.out.symm.trans HY.out))
          go_wp2
          go_quiet (fail)
          go_wp2;go_ret;exact ⟨by rw [E.out];rfl,⟨m+nq,by rw [vDd]⟩⟩
      · obtain rfl:k=n:=by omega
        have E:=hid (show (xs == ys)=true by rw [beq_iff_eq];exact vGa H.out.len H2.out.len AL.out);go_wp2;go_ret;exact ⟨by rw [E.out];rfl,⟨m,rfl⟩⟩
   · obtain rfl:n=0:=by omega
     obtain rfl:xs=[]:=List.eq_nil_of_length_eq_zero H.out.len;obtain rfl:ys=[]:=List.eq_nil_of_length_eq_zero H2.out.len
     go_enter Tryz.func115,Tryz.ntmps115
     go_wp2
     go_loop [13] (fun i=>i=.int .i64 0) (fun i=>0)
     case atStart=>rfl
     case round=>
      subst hrel;go_wp2;go_ret;exact ⟨rfl,Drew.refl _⟩
 · have E:=hid (show (xs == ys)=false by
    rw [beq_eq_false_iff_ne];intro e;subst e
    exact hne (H.out.len.symm.trans H2.out.len))
   go_enter Tryz.func115,Tryz.ntmps115
   go_wp2;go_ret;exact ⟨by rw [E.out];rfl,Drew.refl _⟩
theorem own0_int (w:World) (B:Nat) (hB:B≤w.heap.size):(w.alloc (.cells #[] 3)).ownsRow B 3 1 (.slice (some ⟨w.heap.size,0,none⟩) 0 0) 0 []:=
 World.ownsRow_lit w #[] 0 hB (by unfold maxLen;omega) rfl
theorem eq_uint32 (s t:SlV) (xs ys:List Int) (w:World) (h:ISl w .u32 s.A s.n s.c xs) (h2:ISl w .u32 t.A t.n t.c ys):
 Calls Tryz.prog 116 #[.slice s.A s.n s.c,.slice t.A t.n t.c] w fun e w'=>e=.returned (.bool (xs == ys))∧Drew w w':=by
 obtain ⟨A,n,c⟩:=s;obtain ⟨B,n2,c2⟩:=t;dsimp only at h h2 ⊢;have hle:=h.le;have hcap:=h.cap;have hle2:=h2.le;have hcap2:=h2.cap;have H:=hid h;have H2:=hid h2;clear h h2
 by_cases hne:n=n2
 · subst hne
   by_cases hn:0<n
   · obtain ⟨b,off,rfl,hb,hc⟩:=H.out.2.2.2 hn
     obtain ⟨b2,off2,rfl,hb2,hc2⟩:=H2.out.2.2.2 hn;have HC:=hid hc;have HC2:=hid hc2;clear hc hc2
     go_enter Tryz.func116,Tryz.ntmps116
     go_wp2
     go_loopw [13] (fun i wr=>∃k:Nat,k≤n∧i=.int .i64 (k:Int)∧(∀j,j<k→xs.getD j 0=ys.getD j 0)∧Drew w wr) (fun i _=>n - (intOf i).toNat)
     case atStart=>exact ⟨0,by omega,rfl,fun j hj=>absurd hj (by omega),Drew.refl _⟩
     case round=>
      obtain ⟨k,hk,rfl,hal,m,rfl⟩:=hrel;have AL:=hid hal;clear hal
      by_cases hlt:k<n
      · have c0:w.cell? ⟨b,off+k,none⟩=some (.int .u32 (xs.getD k 0)):=HC.out k hlt
        have c1:w.cell? ⟨b2,off2+k,none⟩=some (.int .u32 (ys.getD k 0)):=HC2.out k hlt;generalize hx:xs.getD k 0=x at c0;generalize hy:ys.getD k 0=y at c1;have HX:=hid hx;have HY:=hid hy;clear hx hy
        by_cases hxy:x=y
        · subst hxy
          go_wp2
          go_quiet (fail)
          go_wp2
          go_roundw
          case rel=>exact ⟨k+1,by omega,by go_num,fun j hj=>by
           by_cases e:j=k
           · subst e;rw [HX.out,HY.out]
           · exact AL.out j (by omega),⟨m+nq,rfl⟩⟩
          case measure=>simp [intOf];omega
        · have E:=hid (show (xs == ys)=false by
           rw [beq_eq_false_iff_ne];intro e;subst e
           exact hxy (HX.out.symm.trans HY.out))
          go_wp2
          go_quiet (fail)
          go_wp2;go_ret;exact ⟨by rw [E.out];rfl,⟨m+nq,by rw [vDd]⟩⟩
      · obtain rfl:k=n:=by omega
        have E:=hid (show (xs == ys)=true by rw [beq_iff_eq];exact vGa H.out.len H2.out.len AL.out);go_wp2;go_ret;exact ⟨by rw [E.out];rfl,⟨m,rfl⟩⟩
   · obtain rfl:n=0:=by omega
     obtain rfl:xs=[]:=List.eq_nil_of_length_eq_zero H.out.len;obtain rfl:ys=[]:=List.eq_nil_of_length_eq_zero H2.out.len
     go_enter Tryz.func116,Tryz.ntmps116
     go_wp2
     go_loop [13] (fun i=>i=.int .i64 0) (fun i=>0)
     case atStart=>rfl
     case round=>
      subst hrel;go_wp2;go_ret;exact ⟨rfl,Drew.refl _⟩
 · have E:=hid (show (xs == ys)=false by
    rw [beq_eq_false_iff_ne];intro e;subst e
    exact hne (H.out.len.symm.trans H2.out.len))
   go_enter Tryz.func116,Tryz.ntmps116
   go_wp2;go_ret;exact ⟨by rw [E.out];rfl,Drew.refl _⟩
theorem own0_uint32 (w:World) (B:Nat) (hB:B≤w.heap.size):(w.alloc (.cells #[] 33)).ownsRow B 33 1 (.slice (some ⟨w.heap.size,0,none⟩) 0 0) 0 []:=
 World.ownsRow_lit w #[] 0 hB (by unfold maxLen;omega) rfl
abbrev lF (f0 f1:Int) (f2 f3 f4 f5 f6:List UInt8) (f7 f8 f9 f10 f11 f12:Int) (s1 s2 s3 s4:SlV):Value:=.agg #[.int .i64 f0,.int .i64 f1,.string (str f2),.string (str f3),.string (str f4),.string (str f5),.string (str f6),.int .u64 f7,.int .u32 f8,.int .i64 f9,.int .i64 f10,.int .i64 f11,.int .i64 f12,.slice s1.A s1.n s1.c,.slice s2.A s2.n s2.c,.slice s3.A s3.n s3.c,.slice s4.A s4.n s4.c]
end Go.Proofs.YtgmflecelnefcaaGreat
