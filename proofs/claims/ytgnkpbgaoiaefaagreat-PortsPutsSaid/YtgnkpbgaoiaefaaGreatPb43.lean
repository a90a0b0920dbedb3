import Derived.Test.YtgnkpbgaoiaefaaGreatPb18
import Derived.Test.YtgnkpbgaoiaefaaGreatPb35
import Derived.Test.YtgnkpbgaoiaefaaGreatPb42
import Derived.Test.YtgnkpbgaoiaefaaGreatPb04
import Derived.Test.YtgnkpbgaoiaefaaGreatPb10
import Derived.Test.YtgnkpbgaoiaefaaGreatPb17
import Derived.Test.YtgnkpbgaoiaefaaGreatPb41
import Derived.Test.YtgnkpbgaoiaefaaGreatPb39
set_option maxRecDepth 100000
set_option maxHeartbeats 40000000
namespace Go.Proofs.YtgnkpbgaoiaefaaGreat
open Go.Lib (hid)
open Go.RowKit
def hasB (N:NV) (dev v:Int):Bool:=decide (v=0) || !decide (atF N dev v= -1)
theorem hasB_filter (N:NV) (dev:Int) (L:LV):((L.vlan :: L.tagged).filter fun x=>!hasB N dev x)=lkL N dev L:=by
 unfold lkL hasB;congr 1
 funext x
 by_cases h:x=0<;>simp [h]
theorem lacks1_any (N:NV) (U:NSl3) (q p1 p2:Nat) (dev v:Int) (w:World) (h:NRead w (vAs w) N U) (hz:NvSz N) (hn:NetOk N) (hb:TBx w q 72 (vBx U)) (c1:w.cell? ⟨p1,0,none⟩=some (.pointer (some ⟨q,0,none⟩))) (c2:w.cell? ⟨p2,0,none⟩=some (.int .i64 dev)):
 Calls Tryz.prog 90 #[.int .i64 v,.pointer (some ⟨p1,0,none⟩),.pointer (some ⟨p2,0,none⟩)] w fun e w'=>e=.returned (.bool (hasB N dev v))∧Below w.heap.size w w':=by
 obtain ⟨a,ha⟩:∃a,atF N dev v=a:=⟨_,rfl⟩
 have DC:=fun (w':World) (hb:Below w.heap.size w w')=>xndomain_any N U dev v w' (h.up hb) hz hn
 rw [ha] at DC;unfold vBb at DC;have DC:=hid DC;have HV:=hid (show hasB N dev v=(decide (v=0) || !decide (a= -1)) by unfold hasB;rw [ha]);rw [HV.out]
 have KR:=hid (show ∀wx,Below w.heap.size w wx→(NF wx q U)∧wx.cell? ⟨p1,0,none⟩=some (.pointer (some ⟨q,0,none⟩))∧wx.cell? ⟨p2,0,none⟩=some (.int .i64 dev)∧q<wx.heap.size∧p1<wx.heap.size∧p2<wx.heap.size from fun wx hx=>by
  have tb:=hb.below hx;have l1:p1<w.heap.size:=World.block_lt_of_cell? w _ c1;have l2:p2<w.heap.size:=World.block_lt_of_cell? w _ c2
  exact ⟨⟨tb.cell 0 _ rfl,tb.cell 1 _ rfl,tb.cell 2 _ rfl,tb.cell 3 _ rfl,tb.cell 4 _ rfl,tb.cell 5 _ rfl,tb.cell 6 _ rfl,tb.cell 7 _ rfl⟩,(hx.cell (p:=⟨p1,0,none⟩) l1).trans c1,(hx.cell (p:=⟨p2,0,none⟩) l2).trans c2,tb.lt,Nat.lt_of_lt_of_le l1 hx.size,Nat.lt_of_lt_of_le l2 hx.size⟩)
 clear h hz hn hb c1 c2 ha
 go_enter Tryz.func90,Tryz.ntmps90
 go_upto_region 1 with fail
 by_cases vz:v=0
 · have x1:(v == 0)=true:=by simpa using vz
   have EV:=hid (show (decide (v=0) || !decide (a= -1))=true by simp [vz]);clear vz;refine vAe (fun wx=>Below w.heap.size w wx) (by kernel_rfl) (by kernel_rfl) ((Below.refl _ _).drew) ?_
   repeat
    first
     |(refine Seq.pass rfl ?_;simp only [Act.put,List.setIfInBounds_toArray,List.set_cons_zero,List.set_cons_succ])
     |(refine Seq.run ?_ rfl (fun wx hx=>?_) ?_
       rotate_left
       · obtain ⟨⟨t0,t1,t2,t3,t4,t5,t6,t7⟩,k1,k2,m0,m1,m2⟩:=KR.out wx hx
         go_simp
         first
          |(refine StepRun.val ?_;exact hx)
          |(refine StepRun.call (v:=.int .i64 a) ?_;(with_reducible refine Calls.mono (DC.out _ hx) ?_);rintro e w' ⟨rfl,hb⟩;exact ⟨rfl,vAa hx hb⟩)
       simp only [Act.put,List.setIfInBounds_toArray,List.set_cons_zero,List.set_cons_succ])
   refine Seq.last (fun wx hx=>?_);go_wp2;go_ret;exact ⟨by rw [EV.out];rfl,hx⟩
 · have x1:(v == 0)=false:=by simpa using vz
   have EV:=hid (show (decide (v=0) || !decide (a= -1))=(a != -1) by
    by_cases az:a= -1
    · simp [vz,az]
    · simp [vz,az])
   clear vz;refine vAe (fun wx=>Below w.heap.size w wx) (by kernel_rfl) (by kernel_rfl) ((Below.refl _ _).drew) ?_
   repeat
    first
     |(refine Seq.pass rfl ?_;simp only [Act.put,List.setIfInBounds_toArray,List.set_cons_zero,List.set_cons_succ])
     |(refine Seq.run ?_ rfl (fun wx hx=>?_) ?_
       rotate_left
       · obtain ⟨⟨t0,t1,t2,t3,t4,t5,t6,t7⟩,k1,k2,m0,m1,m2⟩:=KR.out wx hx
         go_simp
         first
          |(refine StepRun.val ?_;exact hx)
          |(refine StepRun.call (v:=.int .i64 a) ?_;(with_reducible refine Calls.mono (DC.out _ hx) ?_);rintro e w' ⟨rfl,hb⟩;exact ⟨rfl,vAa hx hb⟩)
       simp only [Act.put,List.setIfInBounds_toArray,List.set_cons_zero,List.set_cons_succ])
   refine Seq.last (fun wx hx=>?_);go_wp2;go_ret;exact ⟨by rw [EV.out];rfl,hx⟩
theorem enters_lacks1:vBk Tryz.prog 90:=vBd Tryz.func90 (by kernel_rfl) rfl
def GotLk (ys:List Int) (w:World) (e:Ending) (w':World):Prop:=∃s:Sl3,e=.returned (.slice s.A s.n s.c)∧RSl (Rdr.int .i64) w' (fun b=>w.heap.size≤b∧TyI w' b) s.A s.n s.c ys∧Below w.heap.size w w'
theorem lacks_any (N:NV) (U:NSl3) (q:Nat) (dev:Int) (L:LV) (s1 s2 s3 s4:SlV) (w:World) (h:NRead w (vAs w) N U) (hz:NvSz N) (hn:NetOk N) (hb:TBx w q 72 (vBx U)) (hl:LRead w L s1 s2 s3 s4) (hT:L.tagged.length≤300):
 Calls Tryz.prog 33 #[.pointer (some ⟨q,0,none⟩),.int .i64 dev,vAw L s1 s2 s3 s4] w (GotLk (lkL N dev L) w):=by
 have LA_:=hid (vCc ((w.alloc (.cells #[.pointer (some ⟨q,0,none⟩)] 54)).alloc (.cells #[.int .i64 dev] 3)) L s1 s2 s3 s4 37);have UP:=hid (fun (w':World) (hb:Below w.heap.size w w')=>h.up hb);have UL:=hid (fun (w':World) (hb:Below w.heap.size w w')=>vAq hl hb);have UB:=hid (fun (w':World) (hx:Below w.heap.size w w')=>hb.below hx);have TL:=hid hl.1.len;have TT:=hid hT
 have NZ:=hid hz;have NO:=hid hn;have hle1:=hl.1.le;have hcap1:=hl.1.cap;clear h hl hb hz hn hT;rw [show vAw L s1 s2 s3 s4=.agg #[.int .i64 L.row,.int .i64 L.kind,.string (str L.dev),.string (str L.port),.string (str L.peer),.string (str L.far),.string (str L.name),.int .u64 L.mac,.int .u32 L.addr,.int .i64 L.bits,.int .i64 L.vlan,.int .i64 L.num,.int .i64 L.cost,.slice s1.A s1.n s1.c,.slice s2.A s2.n s2.c,.slice s3.A s3.n s3.c,.slice s4.A s4.n s4.c] from rfl]
 go_enter Tryz.func33,Tryz.ntmps33
 go_upto_region 1 with fail
 obtain ⟨w1,hw1⟩:∃w1,((w.alloc (.cells #[.pointer (some ⟨q,0,none⟩)] 54)).alloc (.cells #[.int .i64 dev] 3)).alloc (.cells (lA L s1 s2 s3 s4) 37)=w1:=⟨_,rfl⟩;have B1:=hid (show Below w.heap.size w w1 by rw [←hw1];exact (((Below.refl _ _).alloc (Nat.le_refl _) _).alloc (by simp) _).alloc (by simp;omega) _);have C1:=hid (show Cs w1 w.heap.size [.pointer (some ⟨q,0,none⟩)] by rw [←hw1];exact ((Cs.new w [.pointer (some ⟨q,0,none⟩)] _).below ((Below.refl _ _).alloc (Nat.le_refl _) _)).below ((Below.refl _ _).alloc (Nat.le_refl _) _))
 have C2:=hid (show Cs w1 (w.heap.size+1) [.int .i64 dev] by
  have:=(Cs.new (w.alloc (.cells #[.pointer (some ⟨q,0,none⟩)] 54)) [.int .i64 dev] 3).below ((Below.refl _ _).alloc (Nat.le_refl _) (.cells (lA L s1 s2 s3 s4) 37))
  rw [show (w.alloc (.cells #[.pointer (some ⟨q,0,none⟩)] 54)).heap.size=w.heap.size+1 by simp] at this
  rw [←hw1];exact this)
 have LB:=hid (show BoxF w1 (w.heap.size+2) 17 (lc L s1 s2 s3 s4) by
  have:=LA_.out
  rw [show ((w.alloc (.cells #[.pointer (some ⟨q,0,none⟩)] 54)).alloc (.cells #[.int .i64 dev] 3)).heap.size=w.heap.size+2 by simp] at this
  rw [←hw1];exact this)
 have ql1:w.heap.size+2<w1.heap.size:=by rw [←hw1];simp
 rw [hw1];clear hw1 LA_;have g10:w1.cell? ⟨w.heap.size+2,10,none⟩=some (.int .i64 L.vlan):=LB.out.cell 10 (by omega);have g13:w1.cell? ⟨w.heap.size+2,13,none⟩=some (.slice s1.A s1.n s1.c):=LB.out.cell 13 (by omega);have I1:=hid (UL.out _ B1.out).1
 go_upto_region 2 with (at_builtin;(refine wpList_ints (B:=w1.heap.size) rfl (.tmp 10) (.tmp 12) 34 3 Tryz.underlying34 (Desc.of (by kernel_rfl)) rfl ⟨some ⟨w1.heap.size,0,none⟩,1,1⟩ [L.vlan] (OwnI.lit .i64 3 w1 w1.heap.size [L.vlan] (Nat.le_refl _) (by simp)) s1.A s1.n s1.c L.tagged ?hy ?hn ?hB rfl rfl ?_);(case hy=>exact I1.out.alloc _);(case hn=>have:=TL.out;have:=TT.out;simp;omega);(case hB=>simp);intro s8 w8 hown hgr hb;have OW8:=hid hown;have BW8:=hid (show Below w1.heap.size w1 w8 from ((Below.refl _ _).alloc (Nat.le_refl _) _).trans hb);clear hown hgr hb)
 have DF:=hid (delf_any 90 #[.pointer (some ⟨w.heap.size,0,none⟩),.pointer (some ⟨w.heap.size+1,0,none⟩)] enters_lacks1 w1.heap.size s8 _ w8 OW8.out (by simp) BW8.out.size (hasB N dev) (fun x w' hx=>by
  have b9:=BW8.out.trans hx;have bb:=B1.out.trans (b9.mono B1.out.size);rw [show (#[Value.int .i64 x]++#[Value.pointer (some ⟨w.heap.size,0,none⟩),Value.pointer (some ⟨w.heap.size+1,0,none⟩)]:Array Value)=#[.int .i64 x,.pointer (some ⟨w.heap.size,0,none⟩),.pointer (some ⟨w.heap.size+1,0,none⟩)] from rfl]
  exact lacks1_any N U q w.heap.size (w.heap.size+1) dev x w' (UP.out _ bb) NZ.out NO.out (UB.out _ bb) ((C1.out.below b9).1 0 _ rfl) ((C2.out.below b9).1 0 _ rfl)))
 rw [show [L.vlan]++L.tagged=L.vlan :: L.tagged from rfl,hasB_filter] at DF;clear g10 g13;go_wp2_with (go_at_call 89;(with_reducible refine DF.out.mono ?_);rintro e w9 ⟨m,rfl,hr,hb⟩;have R9:=hid hr;have X9:=hid hb;clear hr hb);go_ret;exact ⟨⟨s8.A,m,s8.c⟩,rfl,R9.out.keep (fun _ _=>rfl) (fun b hb=>⟨Nat.le_trans B1.out.size hb.1,hb.2⟩),B1.out.trans ((BW8.out.trans X9.out).mono B1.out.size)⟩
theorem knows1_any (X:DevV) (m:Int) (q:Nat) (w:World) (c1:w.cell? ⟨q,0,none⟩=some (.int .u64 m)):Calls Tryz.prog 79 #[.agg #[.int .i64 X.row,.int .i64 X.prio,.string (str X.name),.int .u64 X.mac,.int .u32 X.vtep],.pointer (some ⟨q,0,none⟩)] w fun e w'=>e=.returned (.bool (decide (X.mac=m)))∧Below w.heap.size w w':=by
 have ql:q<w.heap.size:=World.block_lt_of_cell? w _ c1;obtain ⟨v,hv⟩:∃v,(X.mac == m)=v:=⟨_,rfl⟩
 rw [show decide (X.mac=m)=v by rw [←hv];by_cases g:X.mac=m<;>simp [g]]
 go_enter Tryz.func79,Tryz.ntmps79
 go_wp2;go_ret;exact ⟨by first|rfl|simp [hv]|(rw [←hv];rfl),vAc _ _⟩
theorem enters_knows1:vBk Tryz.prog 79:=vBd Tryz.func79 (by kernel_rfl) rfl
theorem has_dev (A:Option Addr) (n c:Nat) (g:Value) (V:Int) (w:World)
 (IX:Calls Tryz.prog 136 #[.slice A n c,g] w fun e w2=>e=.returned (.int .i64 V)∧Below w.heap.size w w2):
 Calls Tryz.prog 78 #[.slice A n c,g] w fun e w'=>e=.returned (.bool (decide (0≤V)))∧Below w.heap.size w w':=by
 have IX:=hid IX
 go_enter Tryz.func78,Tryz.ntmps78
 go_wp2_with (go_at_call 136;(with_reducible refine IX.out.mono ?_);rintro e wi ⟨rfl,hb⟩;have X2:=hid hb;clear hb);go_ret;exact ⟨rfl,X2.out⟩
def macIn (N:NV) (m:Int):Bool:=N.devices.any fun X=>decide (X.mac=m)
def mcK:List DevV→Int→Nat→Int
 | [],_,_=> -1
 |d :: r,m,k=>if d.mac=m then (k:Int) else mcK r m (k+1)
theorem mcK_fst (m:Int):∀(xs:List DevV) (k n:Nat),n=xs.length→(∃j,j<n∧mcK xs m k=((k+j:Nat):Int)∧(xs.getD j DevV.zero).mac=m∧∀i,i<j→¬(xs.getD i DevV.zero).mac=m)∨(mcK xs m k= -1∧∀i,i<n→¬(xs.getD i DevV.zero).mac=m)
 | [],k,n,h=>.inr ⟨rfl,fun i hi=>absurd hi (by simp at h;omega)⟩
 |d :: r,k,n,h=>by
  by_cases hd:d.mac=m
  · exact .inl ⟨0,by simp at h;omega,by rw [mcK,if_pos hd];simp,hd,fun i hi=>absurd hi (by omega)⟩
  · rcases mcK_fst m r (k+1) r.length rfl with ⟨j,h1,h2,h3,h4⟩|⟨h1,h2⟩
    · refine .inl ⟨j+1,by simp at h;omega,by rw [mcK,if_neg hd,h2];congr 1;omega,by simpa using h3,fun i hi=>?_⟩
      match i with
      |0=>simpa using hd
      |i+1=>simpa using h4 i (by omega)
    · refine .inr ⟨by rw [mcK,if_neg hd,h1],fun i hi=>?_⟩
      match i with
      |0=>simpa using hd
      |i+1=>simpa using h2 i (by simp at h;omega)
theorem macIn_iff (N:NV) (m:Int):decide (0≤mcK N.devices m 0)=macIn N m:=by
 unfold macIn
 rcases mcK_fst m N.devices 0 _ rfl with ⟨j,h1,h2,h3,_⟩|⟨h1,h2⟩
 · rw [h2,decide_eq_true (by omega)]
   symm
   rw [List.any_eq_true];exact ⟨N.devices.getD j DevV.zero,by simp [List.getD,h1],decide_eq_true h3⟩
 · rw [h1,decide_eq_false (by omega)]
   symm
   rw [Bool.eq_false_iff];intro g;rw [List.any_eq_true] at g;obtain ⟨X,hX,hp⟩:=g;obtain ⟨k,hk,rfl⟩:=List.getElem_of_mem hX
   have:=h2 k hk
   simp [List.getD,hk] at this;exact this (of_decide_eq_true hp)
theorem knows_any (N:NV) (U:NSl3) (q:Nat) (m:Int) (w:World) (h:NRead w (vAs w) N U) (hb:TBx w q 72 (vBx U)):Calls Tryz.prog 29 #[.pointer (some ⟨q,0,none⟩),.int .u64 m] w fun e w'=>e=.returned (.bool (macIn N m))∧Below w.heap.size w w':=by
 have c0:=hb.cell 0 _ rfl;have ql:=hb.lt;obtain ⟨W,hW⟩:∃W,w.alloc (.cells #[.int .u64 m] 32)=W:=⟨_,rfl⟩
 have BW:Below w.heap.size w W:=by rw [←hW];exact vAc _ _
 have CM:=hid (show Cs W w.heap.size [.int .u64 m] by rw [←hW];exact Cs.new w [.int .u64 m] _)
 have HF:=hid (has_dev U.dv.A U.dv.n U.dv.c (.func (.func 79) #[] #[.pointer (some ⟨w.heap.size,0,none⟩)]) (mcK N.devices m 0) W (idx_dev 79 #[.pointer (some ⟨w.heap.size,0,none⟩)] enters_knows1 U.dv.A U.dv.n U.dv.c N.devices W (vAr h.dv BW) (fun k=>decide ((N.devices.getD k DevV.zero).mac=m)) (fun k w2 hk hb2=>by
  rw [app1]
  exact knows1_any _ m _ w2 ((CM.out.below hb2).1 0 _ rfl)) _ (by
  rcases mcK_fst m N.devices 0 U.dv.n h.dv.len.symm with ⟨j,h1,h2,h3,h4⟩|⟨h1,h2⟩
  · exact .inl ⟨j,h1,by rw [h2];congr 1;omega,decide_eq_true h3,fun i hi=>decide_eq_false (h4 i hi)⟩
  · exact .inr ⟨h1,fun i hi=>decide_eq_false (h2 i hi)⟩)))
 rw [macIn_iff] at HF;generalize macIn N m=V at *;have B0:=hid BW;subst hW;clear h hb BW
 go_enter Tryz.func29,Tryz.ntmps29
 go_wp2_with (go_at_call 78;(with_reducible refine HF.out.mono ?_);rintro e wi ⟨rfl,hb⟩;have X2:=hid (vAa B0.out hb);clear hb);go_ret;exact ⟨rfl,X2.out⟩
def GotDr (N:NV) (E:Int) (q B:Nat) (F:Nat→Prop) (w:World) (e:Ending) (w':World):Prop:=∃U,e=.returned (.int .i64 E)∧TBx w' q 72 (vBx U)∧NOwn w' B F N U∧Below B w w'
theorem vEt:IsB 72:=by unfold IsB IsO;decide
def ddE (N:NV) (L:LV):Int:=if vGi N L=true then 30 else if 8≤N.devices.length then 3 else 0
def ddN (N:NV) (L:LV):NV:=if ddE N L=0 then vCt N L else N
theorem dd_err {N:NV} {L:LV} {E:Int} (h:ddE N L=E) (h0:E≠0):ddN N L=N∧ddE N L=E:=⟨by unfold ddN;rw [if_neg (by rw [h];exact h0)],h⟩
theorem dd_ok {N:NV} {L:LV} (h:ddE N L=0):ddN N L=vCt N L∧ddE N L=0:=⟨by unfold ddN;rw [if_pos h],h⟩
theorem dup_split (N:NV) (L:LV):vGi N L=(!decide (dvF N L.dev= -1) || macIn N L.mac):=by
 cases e:vGi N L with
 |true=>
  symm
  unfold vGi at e;rw [List.any_eq_true] at e;obtain ⟨X,hX,hp⟩:=e;rw [Bool.or_eq_true,decide_eq_true_eq,decide_eq_true_eq] at hp;rw [Bool.or_eq_true]
  rcases hp with h|h
  · left
    rw [Bool.not_eq_true',decide_eq_false_iff_not];intro g;obtain ⟨k,hk,rfl⟩:=List.getElem_of_mem hX
    rcases dvF_fst N L.dev _ rfl with ⟨j,h1,h2,_,_⟩|⟨_,h2⟩
    · rw [g] at h2;omega
    · have:=h2 k hk
      simp [List.getD,hk] at this;exact this h
  · right
    unfold macIn;rw [List.any_eq_true];exact ⟨X,hX,decide_eq_true h⟩
 |false=>
  symm
  rw [Bool.eq_false_iff];intro g;rw [Bool.or_eq_true] at g
  have:vGi N L=true:=by
   rcases g with g|g
   · rw [Bool.not_eq_true',decide_eq_false_iff_not] at g
     rcases dvF_fst N L.dev _ rfl with ⟨j,h1,h2,h3,_⟩|⟨h1,_⟩
     · exact dup_some h1 (.inl (of_decide_eq_true h3))
     · exact absurd h1 g
   · unfold macIn at g
     rw [List.any_eq_true] at g;obtain ⟨X,hX,hp⟩:=g;obtain ⟨k,hk,rfl⟩:=List.getElem_of_mem hX;exact dup_some hk (.inr (by have:=of_decide_eq_true hp;simpa [List.getD,hk] using this))
  rw [e] at this
  cases this
theorem ddev_any (N:NV) (U:NSl3) (q B:Nat) (F:Nat→Prop) (L:LV) (s1 s2 s3 s4:SlV) (w:World) (hN:NOwn w B F N U) (hF:∀b,F b→b<B) (hB:B≤q) (hb:TBx w q 72 (vBx U)) (hz:NvSz N) (hn:NetOk N) (hdl:L.dev.length≤9223372036854775807):
 Calls Tryz.prog 14 #[.pointer (some ⟨q,0,none⟩),vAw L s1 s2 s3 s4] w (GotDr (ddN N L) (ddE N L) q B F w):=by
 have DC:=fun (w':World) (hx:Below w.heap.size w w')=>vIp N U L.dev w' (hN.up hx).read hz hn hdl
 have KC:=fun (w':World) (hx:Below w.heap.size w w')=>knows_any N U q L.mac w' (hN.up hx).read (hb.below hx)
 obtain ⟨a,ha⟩:∃a,dvF N L.dev=a:=⟨_,rfl⟩;obtain ⟨mk,hmk⟩:∃m,macIn N L.mac=m:=⟨_,rfl⟩;have DUP:=dup_split N L;rw [ha,hmk] at DUP;rw [ha] at DC;rw [hmk] at KC;unfold vBb at DC;have NLEN:=hid hN.dv.len;have hle:=hN.dv.le;have mx:maxLen=9223372036854775807:=rfl;have NZ:=hid hz;have ON:=hid hN;have TB:=hid hb;have FF:=hid hF;have BQ:=hid (show B≤q∧q<w.heap.size from ⟨hB,hb.lt⟩)
 clear ha hmk hz hn hN hb hF hB hdl;rw [show vAw L s1 s2 s3 s4=.agg #[.int .i64 L.row,.int .i64 L.kind,.string (str L.dev),.string (str L.port),.string (str L.peer),.string (str L.far),.string (str L.name),.int .u64 L.mac,.int .u32 L.addr,.int .i64 L.bits,.int .i64 L.vlan,.int .i64 L.num,.int .i64 L.cost,.slice s1.A s1.n s1.c,.slice s2.A s2.n s2.c,.slice s3.A s3.n s3.c,.slice s4.A s4.n s4.c] from rfl]
 go_enter Tryz.func14,Tryz.ntmps14
 go_upto_region 1 with fail
 obtain ⟨w1,hw1⟩:∃w1,w.alloc (.cells (lA L s1 s2 s3 s4) 37)=w1:=⟨_,rfl⟩;have B1:=hid (show Below w.heap.size w w1 by rw [←hw1];exact vAc _ _);have LT:=hid (show TBx w1 w.heap.size 37 [.int .i64 L.row,.int .i64 L.kind,.string (str L.dev),.string (str L.port),.string (str L.peer),.string (str L.far),.string (str L.name),.int .u64 L.mac,.int .u32 L.addr,.int .i64 L.bits,.int .i64 L.vlan,.int .i64 L.num,.int .i64 L.cost,.slice s1.A s1.n s1.c,.slice s2.A s2.n s2.c,.slice s3.A s3.n s3.c,.slice s4.A s4.n s4.c] by rw [←hw1];exact TBx.new w #[.int .i64 L.row,.int .i64 L.kind,.string (str L.dev),.string (str L.port),.string (str L.peer),.string (str L.far),.string (str L.name),.int .u64 L.mac,.int .u32 L.addr,.int .i64 L.bits,.int .i64 L.vlan,.int .i64 L.num,.int .i64 L.cost,.slice s1.A s1.n s1.c,.slice s2.A s2.n s2.c,.slice s3.A s3.n s3.c,.slice s4.A s4.n s4.c] _)
 have TB1:=hid (TB.out.below B1.out);have ON1:=hid (ON.out.up B1.out);rw [hw1];clear hw1;have DC:=hid (fun w' (hx:Below w1.heap.size w1 w')=>DC w' (B1.out.trans (hx.mono B1.out.size)));have KC:=hid (fun w' (hx:Below w1.heap.size w1 w')=>KC w' (B1.out.trans (hx.mono B1.out.size)));have DUP:=hid DUP
 have KR:=hid (show ∀wx,Below w1.heap.size w1 wx→(NF wx q U)∧(wx.cell? ⟨w.heap.size,0,none⟩=some (.int .i64 L.row)∧wx.cell? ⟨w.heap.size,2,none⟩=some (.string (str L.dev))∧wx.cell? ⟨w.heap.size,7,none⟩=some (.int .u64 L.mac)∧wx.cell? ⟨w.heap.size,11,none⟩=some (.int .i64 L.num))∧q<wx.heap.size∧w.heap.size<wx.heap.size from fun wx hx=>by
  have tb:=TB1.out.below hx;have lt:=LT.out.below hx
  exact ⟨⟨tb.cell 0 _ rfl,tb.cell 1 _ rfl,tb.cell 2 _ rfl,tb.cell 3 _ rfl,tb.cell 4 _ rfl,tb.cell 5 _ rfl,tb.cell 6 _ rfl,tb.cell 7 _ rfl⟩,⟨lt.cell 0 _ rfl,lt.cell 2 _ rfl,lt.cell 7 _ rfl,lt.cell 11 _ rfl⟩,tb.lt,lt.lt⟩)
 by_cases az:a= -1
 rotate_left
 · have x2:(a != -1)=true:=by simpa using az
   have EV:=hid (dd_err (show ddE N L=30 by unfold ddE;rw [DUP.out];simp [az]) (by decide));clear az;refine vAe (fun wx=>Below w1.heap.size w1 wx) (by kernel_rfl) (by kernel_rfl) ((Below.refl _ _).drew) ?_
   repeat
    first
     |(refine Seq.pass rfl ?_;simp only [Act.put,List.setIfInBounds_toArray,List.set_cons_zero,List.set_cons_succ])
     |(refine Seq.run ?_ rfl (fun wx hx=>?_) ?_
       rotate_left
       · obtain ⟨⟨t0,t1,t2,t3,t4,t5,t6,t7⟩,⟨g0,g2,g7,g11⟩,m0,m1⟩:=KR.out wx hx
         go_simp
         first
          |(refine StepRun.val ?_;exact hx)
          |(refine StepRun.call (v:=.int .i64 a) ?_;(with_reducible refine Calls.mono (DC.out _ hx) ?_);rintro e w' ⟨rfl,hb⟩;exact ⟨rfl,vAa hx hb⟩)
          |(refine StepRun.call (v:=.bool mk) ?_;(with_reducible refine Calls.mono (KC.out _ hx) ?_);rintro e w' ⟨rfl,hb⟩;exact ⟨rfl,vAa hx hb⟩)
       simp only [Act.put,List.setIfInBounds_toArray,List.set_cons_zero,List.set_cons_succ])
   refine Seq.last (fun w2 h2=>?_);obtain ⟨⟨t0,t1,t2,t3,t4,t5,t6,t7⟩,⟨g0,g2,g7,g11⟩,m0,m1⟩:=KR.out w2 h2;go_wp2;go_ret;rw [EV.out.1,EV.out.2];exact ⟨U,rfl,TB1.out.below h2,ON1.out.up h2,(B1.out.trans (h2.mono B1.out.size)).mono (by have:=BQ.out;omega)⟩
 have x2:(a != -1)=false:=by simpa using az
 cases mk with
 |true=>
  have EV:=hid (dd_err (show ddE N L=30 by unfold ddE;rw [DUP.out];simp) (by decide));clear az;refine vAe (fun wx=>Below w1.heap.size w1 wx) (by kernel_rfl) (by kernel_rfl) ((Below.refl _ _).drew) ?_
  repeat
   first
    |(refine Seq.pass rfl ?_;simp only [Act.put,List.setIfInBounds_toArray,List.set_cons_zero,List.set_cons_succ])
    |(refine Seq.run ?_ rfl (fun wx hx=>?_) ?_
      rotate_left
      · obtain ⟨⟨t0,t1,t2,t3,t4,t5,t6,t7⟩,⟨g0,g2,g7,g11⟩,m0,m1⟩:=KR.out wx hx
        go_simp
        first
         |(refine StepRun.val ?_;exact hx)
         |(refine StepRun.call (v:=.int .i64 a) ?_;(with_reducible refine Calls.mono (DC.out _ hx) ?_);rintro e w' ⟨rfl,hb⟩;exact ⟨rfl,vAa hx hb⟩)
         |(refine StepRun.call (v:=.bool true) ?_;(with_reducible refine Calls.mono (KC.out _ hx) ?_);rintro e w' ⟨rfl,hb⟩;exact ⟨rfl,vAa hx hb⟩)
      simp only [Act.put,List.setIfInBounds_toArray,List.set_cons_zero,List.set_cons_succ])
  refine Seq.last (fun w2 h2=>?_);obtain ⟨⟨t0,t1,t2,t3,t4,t5,t6,t7⟩,⟨g0,g2,g7,g11⟩,m0,m1⟩:=KR.out w2 h2;go_wp2;go_ret;rw [EV.out.1,EV.out.2];exact ⟨U,rfl,TB1.out.below h2,ON1.out.up h2,(B1.out.trans (h2.mono B1.out.size)).mono (by have:=BQ.out;omega)⟩
 |false=>
 have ND:=hid (show vGi N L=false by rw [DUP.out];simp [az]);clear az;refine vAe (fun wx=>Below w1.heap.size w1 wx) (by kernel_rfl) (by kernel_rfl) ((Below.refl _ _).drew) ?_
 repeat
  first
   |(refine Seq.pass rfl ?_;simp only [Act.put,List.setIfInBounds_toArray,List.set_cons_zero,List.set_cons_succ])
   |(refine Seq.run ?_ rfl (fun wx hx=>?_) ?_
     rotate_left
     · obtain ⟨⟨t0,t1,t2,t3,t4,t5,t6,t7⟩,⟨g0,g2,g7,g11⟩,m0,m1⟩:=KR.out wx hx
       go_simp
       first
        |(refine StepRun.val ?_;exact hx)
        |(refine StepRun.call (v:=.int .i64 a) ?_;(with_reducible refine Calls.mono (DC.out _ hx) ?_);rintro e w' ⟨rfl,hb⟩;exact ⟨rfl,vAa hx hb⟩)
        |(refine StepRun.call (v:=.bool false) ?_;(with_reducible refine Calls.mono (KC.out _ hx) ?_);rintro e w' ⟨rfl,hb⟩;exact ⟨rfl,vAa hx hb⟩)
     simp only [Act.put,List.setIfInBounds_toArray,List.set_cons_zero,List.set_cons_succ])
 refine Seq.last (fun w2 h2=>?_);obtain ⟨⟨t0,t1,t2,t3,t4,t5,t6,t7⟩,⟨g0,g2,g7,g11⟩,m0,m1⟩:=KR.out w2 h2;have Y2:=hid h2;clear h2
 by_cases h8:8≤U.dv.n
 · have lt8:(8:Int)≤(U.dv.n:Int):=by omega
   have EV:=hid (dd_err (show ddE N L=3 by unfold ddE;rw [ND.out,if_neg (by decide),if_pos (by rw [←NLEN.out];exact h8)]) (by decide));go_wp2;go_ret;rw [EV.out.1,EV.out.2];exact ⟨U,rfl,TB1.out.below Y2.out,ON1.out.up Y2.out,(B1.out.trans (Y2.out.mono B1.out.size)).mono (by have:=BQ.out;omega)⟩
 have lt8:¬(8:Int)≤(U.dv.n:Int):=by omega
 have EV:=hid (dd_ok (show ddE N L=0 by unfold ddE;rw [ND.out,if_neg (by decide),if_neg (by rw [←NLEN.out];exact h8)]));have HLEN:=hid (show N.devices.length≤7 by have:=NLEN.out;omega)
 go_upto_region 5 with fail
 clear t0 t1 t2 t3 t4 t5 t6 t7 g0 g2 g7 g11 m0 m1;obtain ⟨W0,hW0⟩:∃W0,w2.drew=W0:=⟨_,rfl⟩;have V0:=hid (show Below w1.heap.size w1 W0 from hW0▸vAd Y2.out 1);have HX:=hid hW0;clear hW0;have OO0:=hid (ON1.out.up V0.out);have T0:=hid (TB1.out.below V0.out);have L0:=hid (LT.out.below V0.out);obtain ⟨W1,hW1⟩:∃W1,W0.alloc (.cells (vId (devOf L)).toArray 57)=W1:=⟨_,rfl⟩
 have b1:Below W0.heap.size W0 W1:=by rw [←hW1];exact (Below.refl _ _).alloc (Nat.le_refl _) _
 have E1:TBx W1 W0.heap.size 57 (vId (devOf L)):=by rw [←hW1];exact TBx.new W0 _ _
 have gB:B≤W1.heap.size:=by have:=T0.out.lt;have:=BQ.out;have:=b1.size;omega
 obtain ⟨u',W2,hr,R2,C2,bb2⟩:=run_ri1 (P:=Tryz.prog) 22 22 Tryz.underlying22 (Desc.of (by kernel_rfl)) (by decide) ((OO0.out.up b1).dv) vEo FF.out W0.heap.size (vId (devOf L)) (devOf L) E1.range rfl (by have:=HLEN.out;omega) gB;have T1:=hid (T0.out.below b1);have T2:=hid (T1.out.chg C2 (by decide));have L1:=hid (L0.out.below b1);have L2:=hid (L1.out.chg C2 (by decide));obtain ⟨W3,hW3⟩:∃W3,W2.setCell ⟨q,0,none⟩ (.slice u'.A u'.n u'.c)=W3:=⟨_,rfl⟩
 have C3:=hid (show ChgT B 72 W2 W3 by rw [←hW3];exact T2.out.chgT BQ.out.1 0 _);have L3:=hid (L2.out.chg C3.out (by decide));obtain ⟨U',hU'⟩:∃U':NSl3,({U with dv:=u'}:NSl3)=U':=⟨_,rfl⟩;have T3:=hid (show TBx W3 q 72 (vBx U') by rw [←hW3,←hU'];exact T2.out.set 0 _);have O3:=hid (show NOwn W3 B F (vCt N L) U' by rw [←hU'];exact ((OO0.out.up b1).setDv C2 FF.out R2).box C3.out vEt FF.out)
 have Z3:=hid (show Below B w W3 by
  rw [←hW3]
  have hwB:B≤w.heap.size:=by have:=BQ.out;omega
  have hwB1:B≤W0.heap.size:=by have:=T0.out.lt;have:=BQ.out;omega
  have v0:Below B w W0:=(B1.out.trans (V0.out.mono B1.out.size)).mono hwB
  exact ((v0.trans (b1.mono hwB1)).trans bb2).setCell BQ.out.1 _)
 have HR:=hid hr;have H1:=hid hW1;have H3:=hid hW3
 have CB:=hid (fun m wx (hx:PhL [W0,W1,W2,W3] m wx)=>hx.all (P:=fun x=>(x.cell? ⟨w.heap.size,0,none⟩=some (.int .i64 L.row)∧x.cell? ⟨w.heap.size,2,none⟩=some (.string (str L.dev))∧x.cell? ⟨w.heap.size,7,none⟩=some (.int .u64 L.mac)∧x.cell? ⟨w.heap.size,11,none⟩=some (.int .i64 L.num))∧q<x.heap.size∧w.heap.size<x.heap.size) (by
  intro x hx;simp only [List.mem_cons,List.not_mem_nil,or_false] at hx
  rcases hx with rfl|rfl|rfl|rfl
  · have lt:=L0.out;exact ⟨⟨lt.cell 0 _ rfl,lt.cell 2 _ rfl,lt.cell 7 _ rfl,lt.cell 11 _ rfl⟩,T0.out.lt,lt.lt⟩
  · have lt:=L1.out;exact ⟨⟨lt.cell 0 _ rfl,lt.cell 2 _ rfl,lt.cell 7 _ rfl,lt.cell 11 _ rfl⟩,T1.out.lt,lt.lt⟩
  · have lt:=L2.out;exact ⟨⟨lt.cell 0 _ rfl,lt.cell 2 _ rfl,lt.cell 7 _ rfl,lt.cell 11 _ rfl⟩,T2.out.lt,lt.lt⟩
  · have lt:=L3.out;exact ⟨⟨lt.cell 0 _ rfl,lt.cell 2 _ rfl,lt.cell 7 _ rfl,lt.cell 11 _ rfl⟩,T3.out.lt,lt.lt⟩))
 have CX:=hid (fun m wx (hx:PhL [W0,W1,W2,W3] m wx) (hm:m≤1)=>hx.upto hm (P:=fun x=>x.cell? ⟨q,0,none⟩=some (.slice U.dv.A U.dv.n U.dv.c)) (by
  intro x hx;simp only [List.take,List.mem_cons,List.not_mem_nil,or_false] at hx
  rcases hx with rfl|rfl
  · exact T0.out.cell 0 _ rfl
  · exact T1.out.cell 0 _ rfl))
 clear hr R2 C2 bb2 hW1 hW3 hU' E1 b1 gB;refine vBc (PhL [W0,W1,W2,W3]) [15,16,20] (by kernel_rfl) (by kernel_rfl) (by kernel_rfl) (by rw [HX.out];rfl) ?_
 repeat
  first
   |(refine SeqP.run ?_ 3 (vFb _ _ _ _) rfl (by decide) (fun m hm wx hx=>?_) ?_
     rotate_left
     · obtain ⟨⟨g0,g2,g7,g11⟩,m0,m1⟩:=CB.out m wx hx
       go_simp
       refine StepRun.val ?_;exact hx
     simp only [Act.put,List.setIfInBounds_toArray,List.set_cons_zero,List.set_cons_succ])
   |(refine SeqP.run (.slice U.dv.A U.dv.n U.dv.c) 1 (of_decide_eq_true (by kernel_rfl)) rfl (by decide) (fun m hm wx hx=>?_) ?_
     · have cx:=CX.out m wx hx hm
       go_simp
       refine StepRun.val ?_;exact hx
     simp only [Act.put,List.setIfInBounds_toArray,List.set_cons_zero,List.set_cons_succ])
   |(refine SeqP.make (.slice (some ⟨W0.heap.size,0,none⟩) 1 1) 0 rfl rfl (fun wx hx=>?_) ?_
     · obtain rfl:W0=wx:=Option.some.inj hx
       go_simp
       exact ⟨rfl,by have:=H1.out;rw [←this];rfl⟩
     simp only [Act.put,List.setIfInBounds_toArray,List.set_cons_zero,List.set_cons_succ])
   |(refine SeqP.make (.slice u'.A u'.n u'.c) 1 rfl rfl (fun wx hx=>?_) ?_
     · obtain rfl:W1=wx:=Option.some.inj hx
       rw [vDe (t:=22) rfl rfl rfl HR.out];exact ⟨rfl,rfl⟩
     simp only [Act.put,List.setIfInBounds_toArray,List.set_cons_zero,List.set_cons_succ])
   |(refine SeqP.make undef 2 rfl rfl (fun wx hx=>?_) ?_
     · obtain rfl:W2=wx:=Option.some.inj hx
       have cx:=T2.out.cell 0 (.slice U.dv.A U.dv.n U.dv.c) rfl;have ff:=T2.out.live 0;have m2:=T2.out.lt
       go_simp
       exact ⟨rfl,by rw [H3.out];rfl⟩
     simp only [Act.put])
 refine SeqP.last rfl (fun w9 h9=>?_);obtain rfl:W3=w9:=Option.some.inj h9;go_wp2;go_ret;rw [EV.out.1,EV.out.2];exact ⟨U',rfl,T3.out,O3.out,Z3.out⟩
end Go.Proofs.YtgnkpbgaoiaefaaGreat
