import Derived.Test.YtgmflecelnefcaaGreatOp11
import Derived.Test.YtgmflecelnefcaaGreatOp19
import Derived.Test.YtgmflecelnefcaaGreatOp04
import Derived.Test.YtgmflecelnefcaaGreatOp05
import Derived.Test.YtgmflecelnefcaaGreatOp06
import Derived.WalkMore
set_option maxRecDepth 100000
set_option maxHeartbeats 40000000
namespace Go.Proofs.YtgmflecelnefcaaGreat
open Go.Lib (hid)
open Go.RowKit
theorem vCm (k:Nat) (hk:k<13) (w:World):Calls Tryz.prog 171 #[.int .i64 (k:Int)] w fun e w'=>e=.returned (.bool (optB k))∧w=w':=by
 match k,hk with
 |0,_|1,_|2,_|3,_|4,_|5,_|6,_|7,_|8,_|9,_|10,_|11,_|12,_=>
  go_enter Tryz.func171,Tryz.ntmps171
  go_wp2;go_ret;exact ⟨rfl,rfl⟩
 |k+13,h=>exact absurd h (by omega)
theorem vCp (k:Nat) (hk:k<13) (w:World):Calls Tryz.prog 172 #[.int .i64 (k:Int)] w fun e w'=>e=.returned (.tuple #[.int .i64 (loW k),.int .i64 (hiW k)])∧w=w':=by
 match k,hk with
 |0,_|1,_|2,_|3,_|4,_|5,_|6,_|7,_|8,_|9,_|10,_|11,_|12,_=>
  go_enter Tryz.func172,Tryz.ntmps172
  go_wp2;go_ret2;exact ⟨rfl,rfl⟩
 |k+13,h=>exact absurd h (by omega)
theorem lone_any (m:Int) (w:World) (h0:0≤m) (h1:m<18446744073709551616):Calls Tryz.prog 174 #[.int .u64 m] w fun e w'=>e=.returned (.bool (loneB m))∧w=w':=by
 have C1:=hid (fun w=>Mac.isHost_any m w h0 h1);have C2:=hid (fun w=>Mac.group_any m w h0 h1)
 by_cases hm:m≤281474976710655
 · have E:=hid (show loneB m=(!Mac.grp m && !Mac.isHostB m) by unfold loneB;rw [decide_eq_true hm,Bool.true_and])
   have d:decide (m≤281474976710655)=true:=decide_eq_true hm;generalize (if Mac.isHostB m=true then m % 4294967296 else 0)=ip at *;generalize Mac.isHostB m=b1 at *;generalize Mac.grp m=b2 at *;clear hm
   cases b1<;>cases b2
   all_goals
    go_enter Tryz.func174,Tryz.ntmps174
    go_wp2_with (first
     |(go_at_call 184;refine (C1.out _).mono ?_;rintro e w1 ⟨rfl,rfl⟩)
     |(go_at_call 185;refine (C2.out _).mono ?_;rintro e w1 ⟨rfl,rfl⟩))
    go_ret;exact ⟨by rw [E.out];rfl,rfl⟩
 · have E:=hid (show loneB m=false by unfold loneB;rw [decide_eq_false hm,Bool.false_and])
   have d:decide (m≤281474976710655)=false:=decide_eq_false hm;generalize (if Mac.isHostB m=true then m % 4294967296 else 0)=ip at *;generalize Mac.isHostB m=b1 at *;clear hm
   cases b1
   all_goals
    go_enter Tryz.func174,Tryz.ntmps174
    go_wp2_with (first
     |(go_at_call 184;refine (C1.out _).mono ?_;rintro e w1 ⟨rfl,rfl⟩)
     |(go_at_call 185;refine (C2.out _).mono ?_;rintro e w1 ⟨rfl,rfl⟩))
    go_ret;exact ⟨by rw [E.out];rfl,rfl⟩
def OneP (w:World) (A B:Int) (w':World):Prop:=
 w'.cell? ⟨w.heap.size,0,none⟩=some (.int .u32 A)∧w'.cell? ⟨w.heap.size,1,none⟩=some (.int .i64 B)∧Below w.heap.size w w'∧w.heap.size<w'.heap.size
theorem OneP.keep {w W w':World} {A B:Int} (h:OneP w A B W) (hb:Below W.heap.size W w'):OneP w A B w':=by
 obtain ⟨h0,h1,hB,hl⟩:=h;exact ⟨(hb.cell (p:=⟨w.heap.size,0,none⟩) hl).trans h0,(hb.cell (p:=⟨w.heap.size,1,none⟩) hl).trans h1,hB.trans (hb.mono hB.size),Nat.lt_of_lt_of_le hl hb.size⟩
theorem OneP.drew {w W:World} {A B:Int} (h:OneP w A B W):OneP w A B W.drew:=by
 obtain ⟨h0,h1,hB,hl⟩:=h;exact ⟨h0,h1,⟨hB.os,hB.tape,hB.output,hB.size,hB.block⟩,hl⟩
theorem OneP.start (w:World) (A B:Int) (T:TypeId):OneP w A B (w.alloc (.cells #[.int .u32 A,.int .i64 B] T)):=⟨by simp,by simp,(Below.refl _ _).alloc (Nat.le_refl _) _,by simp⟩
theorem inner_any (A B:Int) (hA0:0≤A) (hA1:A<4294967296) (w:World):
 Calls Tryz.prog 175 #[.agg #[.int .u32 A,.int .i64 B]] w fun e w'=>e=.returned (.bool (snB A B))∧Below w.heap.size w w':=by
 by_cases b1:1≤B
 rotate_left
 · have E:=hid (show snB A B=false by unfold snB;rw [decide_eq_false b1];rfl)
   have d1:decide (1≤B)=false:=decide_eq_false b1;clear b1
   go_enter Tryz.func175,Tryz.ntmps175
   go_wp2;refine vAe (OneP w A B) (by kernel_rfl) (by kernel_rfl) (OneP.start w A B _).drew ?_
   repeat
    first
     |(refine Seq.pass rfl ?_;simp only [Act.put,List.setIfInBounds_toArray,List.set_cons_zero,List.set_cons_succ])
     |(refine Seq.run ?_ rfl (fun wx hx=>?_) ?_
       rotate_left
       · have hx2:=hx
         obtain ⟨h0,h1,hB,hl⟩:=hx2
         go_simp
         refine StepRun.val ?_;exact hx
       simp only [Act.put,List.setIfInBounds_toArray,List.set_cons_zero,List.set_cons_succ])
   refine Seq.last (fun wx hx=>?_);go_wp2;go_ret;exact ⟨by rw [E.out];rfl,hx.2.2.1⟩
 by_cases b2:B≤30
 rotate_left
 · have E:=hid (show snB A B=false by unfold snB;rw [decide_eq_false b2,Bool.and_false];rfl)
   have d1:decide (1≤B)=true:=decide_eq_true b1;have d2:decide (B≤30)=false:=decide_eq_false b2;clear b1 b2
   go_enter Tryz.func175,Tryz.ntmps175
   go_wp2;refine vAe (OneP w A B) (by kernel_rfl) (by kernel_rfl) (OneP.start w A B _).drew ?_
   repeat
    first
     |(refine Seq.pass rfl ?_;simp only [Act.put,List.setIfInBounds_toArray,List.set_cons_zero,List.set_cons_succ])
     |(refine Seq.run ?_ rfl (fun wx hx=>?_) ?_
       rotate_left
       · have hx2:=hx
         obtain ⟨h0,h1,hB,hl⟩:=hx2
         go_simp
         refine StepRun.val ?_;exact hx
       simp only [Act.put,List.setIfInBounds_toArray,List.set_cons_zero,List.set_cons_succ])
   refine Seq.last (fun wx hx=>?_);go_wp2;go_ret;exact ⟨by rw [E.out];rfl,hx.2.2.1⟩
 have E:=hid (show snB A B=(!decide (A=FS A B) && !decide (A=LS A B)) by unfold snB;rw [decide_eq_true b1,decide_eq_true b2];rfl);have d1:decide (1≤B)=true:=decide_eq_true b1;have d2:decide (B≤30)=true:=decide_eq_true b2;have C1:=hid (fun w=>first_all A B hA0 hA1 w);have C2:=hid (fun w=>last_all A B hA0 hA1 w);clear b1 b2;generalize FS A B=F at *;generalize LS A B=G at *
 by_cases f:A=F
 · have d3:(A != F)=false:=by simp [f]
   rw [decide_eq_true f] at E;clear f
   go_enter Tryz.func175,Tryz.ntmps175
   go_wp2;refine vAe (OneP w A B) (by kernel_rfl) (by kernel_rfl) (OneP.start w A B _).drew ?_
   repeat
    first
     |(refine Seq.pass rfl ?_;simp only [Act.put,List.setIfInBounds_toArray,List.set_cons_zero,List.set_cons_succ])
     |(refine Seq.run ?_ rfl (fun wx hx=>?_) ?_
       rotate_left
       · have hx2:=hx
         obtain ⟨h0,h1,hB,hl⟩:=hx2
         go_simp
         first
          |(refine StepRun.val ?_;exact hx)
          |(refine StepRun.call (v:=.int .u32 F) ?_;(with_reducible refine Calls.mono (C1.out _) ?_);rintro e w' ⟨rfl,hb⟩;exact ⟨rfl,hx.keep hb⟩)
          |(refine StepRun.call (v:=.int .u32 G) ?_;(with_reducible refine Calls.mono (C2.out _) ?_);rintro e w' ⟨rfl,hb⟩;exact ⟨rfl,hx.keep hb⟩)
       simp only [Act.put,List.setIfInBounds_toArray,List.set_cons_zero,List.set_cons_succ])
   refine Seq.last (fun wx hx=>?_);go_wp2;go_ret;exact ⟨by rw [E.out];rfl,hx.2.2.1⟩
 have d3:(A != F)=true:=by simp [f]
 rw [decide_eq_false f] at E;clear f
 by_cases g:A=G
 · have d4:(A != G)=false:=by simp [g]
   rw [decide_eq_true g] at E;clear g
   go_enter Tryz.func175,Tryz.ntmps175
   go_wp2;refine vAe (OneP w A B) (by kernel_rfl) (by kernel_rfl) (OneP.start w A B _).drew ?_
   repeat
    first
     |(refine Seq.pass rfl ?_;simp only [Act.put,List.setIfInBounds_toArray,List.set_cons_zero,List.set_cons_succ])
     |(refine Seq.run ?_ rfl (fun wx hx=>?_) ?_
       rotate_left
       · have hx2:=hx
         obtain ⟨h0,h1,hB,hl⟩:=hx2
         go_simp
         first
          |(refine StepRun.val ?_;exact hx)
          |(refine StepRun.call (v:=.int .u32 F) ?_;(with_reducible refine Calls.mono (C1.out _) ?_);rintro e w' ⟨rfl,hb⟩;exact ⟨rfl,hx.keep hb⟩)
          |(refine StepRun.call (v:=.int .u32 G) ?_;(with_reducible refine Calls.mono (C2.out _) ?_);rintro e w' ⟨rfl,hb⟩;exact ⟨rfl,hx.keep hb⟩)
       simp only [Act.put,List.setIfInBounds_toArray,List.set_cons_zero,List.set_cons_succ])
   refine Seq.last (fun wx hx=>?_);go_wp2;go_ret;exact ⟨by rw [E.out];rfl,hx.2.2.1⟩
 · have d4:(A != G)=true:=by simp [g]
   rw [decide_eq_false g] at E;clear g
   go_enter Tryz.func175,Tryz.ntmps175
   go_wp2;refine vAe (OneP w A B) (by kernel_rfl) (by kernel_rfl) (OneP.start w A B _).drew ?_
   repeat
    first
     |(refine Seq.pass rfl ?_;simp only [Act.put,List.setIfInBounds_toArray,List.set_cons_zero,List.set_cons_succ])
     |(refine Seq.run ?_ rfl (fun wx hx=>?_) ?_
       rotate_left
       · have hx2:=hx
         obtain ⟨h0,h1,hB,hl⟩:=hx2
         go_simp
         first
          |(refine StepRun.val ?_;exact hx)
          |(refine StepRun.call (v:=.int .u32 F) ?_;(with_reducible refine Calls.mono (C1.out _) ?_);rintro e w' ⟨rfl,hb⟩;exact ⟨rfl,hx.keep hb⟩)
          |(refine StepRun.call (v:=.int .u32 G) ?_;(with_reducible refine Calls.mono (C2.out _) ?_);rintro e w' ⟨rfl,hb⟩;exact ⟨rfl,hx.keep hb⟩)
       simp only [Act.put,List.setIfInBounds_toArray,List.set_cons_zero,List.set_cons_succ])
   refine Seq.last (fun wx hx=>?_);go_wp2;go_ret;exact ⟨by rw [E.out];rfl,hx.2.2.1⟩
theorem upA_drop {xs:List Int} {k:Nat} {a:Int} (h:k<xs.length):upA a (xs.drop k)=(decide (a<xs.getD k 0) && upA (xs.getD k 0) (xs.drop (k+1))):=by
 rw [List.drop_eq_getElem_cons h,List.getD,List.getElem?_eq_getElem h]
 rfl
theorem ris_any2 (s:SlV) (xs:List Int) (w:World) (h:ISl w .u32 s.A s.n s.c xs):Calls Tryz.prog 176 #[.slice s.A s.n s.c] w fun e w'=>e=.returned (.bool (risA xs))∧w=w':=by
 obtain ⟨A,n,c⟩:=s;dsimp only at h ⊢;have hle:=h.le;have hcap:=h.cap;have H:=hid h;clear h
 by_cases hn:0<n
 · obtain ⟨b,off,rfl,hb,hc⟩:=H.out.2.2.2 hn
   have HC:=hid hc;clear hc
   go_enter Tryz.func176,Tryz.ntmps176
   go_wp2
   go_loopw [3,8] (fun v i wr=>∃(k:Nat) (a:Int),k≤n∧v=.int .u32 a∧i=.int .i64 (k:Int)∧upA 0 xs=upA a (xs.drop k)∧w=wr) (fun _ i _=>n - (intOf i).toNat)
   case atStart=>exact ⟨0,0,by omega,rfl,rfl,rfl,rfl⟩
   case round=>
    obtain ⟨k,a,hk,rfl,rfl,hu,rfl⟩:=hrel;have U:=hid hu;clear hu
    by_cases hlt:k<n
    · have c0:w.cell? ⟨b,off+k,none⟩=some (.int .u32 (xs.getD k 0)):=HC.out k hlt
      have N:=hid (upA_drop (xs:=xs) (k:=k) (a:=a) (by rw [H.out.len];exact hlt));generalize hx:xs.getD k 0=x at c0 N;have HX:=hid hx;clear hx
      by_cases hle2:x≤a
      · have E:=hid (show risA xs=false by unfold risA;rw [U.out,N.out,decide_eq_false (by omega)];rfl)
        go_wp2;go_ret;exact ⟨by rw [E.out];rfl,rfl⟩
      · have M:=hid (show upA 0 xs=upA x (xs.drop (k+1)) by rw [U.out,N.out,decide_eq_true (by omega),Bool.true_and])
        go_wp2
        go_roundw
        case rel=>exact ⟨k+1,x,by omega,rfl,by go_num,M.out,trivial⟩
        case measure=>simp [intOf];omega
    · obtain rfl:k=n:=by omega
      have M:=hid (show upA 0 xs=true by rw [U.out,List.drop_eq_nil_of_le (by rw [H.out.len];exact Nat.le_refl _)];rfl)
      by_cases h16:k≤16
      · have E:=hid (show risA xs=true by unfold risA;rw [M.out,decide_eq_true (by rw [H.out.len];omega),decide_eq_true (by rw [H.out.len];omega)];rfl)
        go_wp2;go_ret;exact ⟨by rw [E.out];show Ending.returned (.bool (decide ((k:Int)≤16)))=_;rw [decide_eq_true (by omega)],rfl⟩
      · have E:=hid (show risA xs=false by unfold risA;rw [M.out,decide_eq_false (p:=xs.length≤16) (by rw [H.out.len];omega),Bool.and_false,Bool.and_false])
        go_wp2;go_ret;exact ⟨by rw [E.out];show Ending.returned (.bool (decide ((k:Int)≤16)))=_;rw [decide_eq_false (by omega)],rfl⟩
 · obtain rfl:n=0:=by omega
   obtain rfl:xs=[]:=List.eq_nil_of_length_eq_zero H.out.len
   go_enter Tryz.func176,Tryz.ntmps176
   go_wp2
   go_loop [3,8] (fun v i=>v=.int .u32 0∧i=.int .i64 0) (fun _ _=>0)
   case atStart=>exact ⟨rfl,rfl⟩
   case round=>
    obtain ⟨rfl,rfl⟩:=hrel;go_wp2;go_ret;exact ⟨rfl,rfl⟩
theorem contains_any2 (xs:List Int) (v:Int):xs.contains v=xs.any (fun x=>decide (x=v)):=by
 rw [Bool.eq_iff_iff];simp
theorem apart_any (L:LV) (s1 s2 s3 s4:SlV) (w:World) (h:LRead w L s1 s2 s3 s4):
 Calls Tryz.prog 139 #[vAv L s1 s2 s3 s4] w fun e w'=>e=.returned (.bool (apB L))∧Below w.heap.size w w':=by
 have H1:=hid h.1;have hle:=h.1.le;have hcap:=h.1.cap;have hlen:=h.1.len;clear h;have E:=hid (show apB L=(decide (L.kind≠2) || ((decide (L.vlan≠0) || decide (0<s1.n)) && !(L.tagged.contains L.vlan))) by unfold apB;rw [contains_any2,hlen]);obtain ⟨A,n,c⟩:=s1;dsimp only at H1 hle hcap E;unfold vAv;generalize apB L=r at *;generalize L.row=f0 at *;generalize L.kind=f1 at *;generalize L.dev=f2 at *
 generalize L.port=f3 at *;generalize L.peer=f4 at *;generalize L.far=f5 at *;generalize L.name=f6 at *;generalize L.mac=f7 at *;generalize L.addr=f8 at *;generalize L.bits=f9 at *;generalize L.vlan=f10 at *;generalize L.num=f11 at *;generalize L.cost=f12 at *;generalize L.tagged=f13 at *
 by_cases k2:f1=2
 rotate_left
 · have d1:(f1 != 2)=true:=by simpa using k2
   have E2:=hid (show r=true by rw [E.out,decide_eq_true k2];rfl);clear k2
   go_enter Tryz.func139,Tryz.ntmps139
   go_wp2;go_ret;exact ⟨by rw [E2.out];rfl,(Below.refl _ _).alloc (Nat.le_refl _) _⟩
 have E2:=hid (show r=((decide (f10≠0) || decide (0<n)) && !(f13.contains f10)) by rw [E.out,decide_eq_false (by simpa using k2)];rfl);subst k2
 by_cases v0:f10=0
 · have d2:(f10 != 0)=false:=by simpa using v0
   by_cases hn:0<n
   · have E3:=hid (show r=!(f13.contains f10) by rw [E2.out,decide_eq_true hn,Bool.or_true,Bool.true_and])
     clear v0;obtain ⟨q,hq⟩:∃q,f13.contains f10=q:=⟨_,rfl⟩;have QQ:=hid hq;rw [hq] at E3;clear hq
     cases q with
     |true=>
      go_enter Tryz.func139,Tryz.ntmps139
      go_wp2_with (go_at_call 122;refine (vDa ⟨A,n,c⟩ f13 f10 _ (H1.out.alloc _)).mono ?_;rintro e w1 ⟨rfl,rfl⟩;rw [QQ.out]);go_ret;exact ⟨by rw [E3.out];rfl,(Below.refl _ _).alloc (Nat.le_refl _) _⟩
     |false=>
      go_enter Tryz.func139,Tryz.ntmps139
      go_wp2_with (go_at_call 122;refine (vDa ⟨A,n,c⟩ f13 f10 _ (H1.out.alloc _)).mono ?_;rintro e w1 ⟨rfl,rfl⟩;rw [QQ.out]);go_ret;exact ⟨by rw [E3.out];rfl,(Below.refl _ _).alloc (Nat.le_refl _) _⟩
   · have E3:=hid (show r=false by rw [E2.out,decide_eq_false hn,decide_eq_false (by simpa using v0)];rfl)
     obtain rfl:n=0:=by omega
     go_enter Tryz.func139,Tryz.ntmps139
     go_wp2;go_ret;exact ⟨by rw [E3.out];rfl,(Below.refl _ _).alloc (Nat.le_refl _) _⟩
 · have d2:(f10 != 0)=true:=by simpa using v0
   have E3:=hid (show r=!(f13.contains f10) by rw [E2.out,decide_eq_true v0,Bool.true_or,Bool.true_and]);clear v0;obtain ⟨q,hq⟩:∃q,f13.contains f10=q:=⟨_,rfl⟩;have QQ:=hid hq;rw [hq] at E3;clear hq
   cases q with
   |true=>
    go_enter Tryz.func139,Tryz.ntmps139
    go_wp2_with (go_at_call 122;refine (vDa ⟨A,n,c⟩ f13 f10 _ (H1.out.alloc _)).mono ?_;rintro e w1 ⟨rfl,rfl⟩;rw [QQ.out]);go_ret;exact ⟨by rw [E3.out];rfl,(Below.refl _ _).alloc (Nat.le_refl _) _⟩
   |false=>
    go_enter Tryz.func139,Tryz.ntmps139
    go_wp2_with (go_at_call 122;refine (vDa ⟨A,n,c⟩ f13 f10 _ (H1.out.alloc _)).mono ?_;rintro e w1 ⟨rfl,rfl⟩;rw [QQ.out]);go_ret;exact ⟨by rw [E3.out];rfl,(Below.refl _ _).alloc (Nat.le_refl _) _⟩
def vHm (V:WV) (t1 t2:SlV):Value:=.agg #[.string (str V.text),.int .i64 V.n,.int .u64 V.mac,.int .u32 V.addr,.slice t1.A t1.n t1.c,.slice t2.A t2.n t2.c]
structure VOk (V:WV):Prop where
 txt:V.text.length≤1000000
 mac:0≤V.mac∧V.mac<18446744073709551616
 addr:0≤V.addr∧V.addr<4294967296
 lst:V.list.length≤1000000∧V.addrs.length≤1000000
def vFa (w:World) (V:WV) (t1 t2:SlV):Prop:=ISl w .i64 t1.A t1.n t1.c V.list∧ISl w .u32 t2.A t2.n t2.c V.addrs
def vGu (b:Bool) (w:World) (e:Ending) (w':World):Prop:=e=.returned (.bool b)∧Below w.heap.size w w'
theorem may_opt {k:Nat} {V:WV} (ho:optB k=true) (h1:V.n=0) (h2:V.list=[]):vCo k V=true:=by unfold vCo;rw [if_pos ⟨ho,h1,h2⟩]
theorem may_w {k:Nat} {V:WV} (h:¬(V.n=0∧V.list=[])):vCo k V=mayW k V:=by
 unfold vCo;rw [if_neg (fun g=>h ⟨g.2.1,g.2.2⟩)]
theorem vAw (w:World) (o:Obj):Below w.heap.size w (w.alloc o):=(Below.refl _ _).alloc (Nat.le_refl _) _
theorem may_0 (V:WV) (t1 t2:SlV) (w:World) (hv:VOk V) (h:vFa w V t1 t2):Calls Tryz.prog 138 #[.int .i64 0,vHm V t1 t2] w (vGu (vCo 0 V) w):=by
 have C1:=hid (show ∀w,Calls Tryz.prog 171 #[.int .i64 0] w fun e w'=>e=.returned (.bool false)∧w=w' from fun w=>vCm 0 (by decide) w);have C2:=hid (show ∀w,Calls Tryz.prog 172 #[.int .i64 0] w fun e w'=>e=.returned (.tuple #[.int .i64 0,.int .i64 0])∧w=w' from fun w=>vCp 0 (by decide) w);obtain ⟨x,n,mc,ad,xs,ys⟩:=V;obtain ⟨A1,n1,c1⟩:=t1;obtain ⟨A2,n2,c2⟩:=t2;have H1:=hid h.1;have H2:=hid h.2
 have VO:=hid hv;have hl1:=h.1.le;have hc1:=h.1.cap;have hn1:=h.1.len;clear h hv;dsimp only at hl1 hc1 hn1;unfold vHm;dsimp only;have E:=hid (show vCo 0 ⟨x,n,mc,ad,xs,ys⟩=nmB x by rw [vBe rfl];rfl);have C3:=hid (fun w=>name_any (str x) w (by rw [vBa];have:=VO.out.txt;unfold maxLen;dsimp only at this;omega) (nmB x) (vGi x))
 go_enter Tryz.func138,Tryz.ntmps138
 go_wp2_with (first
  |(go_at_call 171;refine (C1.out _).mono ?_;rintro e w1 ⟨rfl,rfl⟩)
  |(go_at_call 172;refine (C2.out _).mono ?_;rintro e w1 ⟨rfl,rfl⟩)
  |(go_at_call 173;refine (C3.out _).mono ?_;rintro e w1 ⟨rfl,rfl⟩))
 go_ret;exact ⟨by rw [E.out];rfl,vAw _ _⟩
theorem may_1 (V:WV) (t1 t2:SlV) (w:World) (hv:VOk V) (h:vFa w V t1 t2):Calls Tryz.prog 138 #[.int .i64 1,vHm V t1 t2] w (vGu (vCo 1 V) w):=by
 have C1:=hid (show ∀w,Calls Tryz.prog 171 #[.int .i64 1] w fun e w'=>e=.returned (.bool false)∧w=w' from fun w=>vCm 1 (by decide) w);have C2:=hid (show ∀w,Calls Tryz.prog 172 #[.int .i64 1] w fun e w'=>e=.returned (.tuple #[.int .i64 0,.int .i64 0])∧w=w' from fun w=>vCp 1 (by decide) w);obtain ⟨x,n,mc,ad,xs,ys⟩:=V;obtain ⟨A1,n1,c1⟩:=t1;obtain ⟨A2,n2,c2⟩:=t2;have H1:=hid h.1;have H2:=hid h.2
 have VO:=hid hv;have hl1:=h.1.le;have hc1:=h.1.cap;have hn1:=h.1.len;clear h hv;dsimp only at hl1 hc1 hn1;unfold vHm;dsimp only;have E:=hid (show vCo 1 ⟨x,n,mc,ad,xs,ys⟩=((x == vDe) || (x == vEy)) by rw [vBe rfl];rfl)
 by_cases e1:x=vDe
 · subst e1
   have d1:(vDe == ([97,99,99,101,115,115]:List UInt8))=true:=by decide
   go_enter Tryz.func138,Tryz.ntmps138
   go_wp2_with (first
    |(go_at_call 171;refine (C1.out _).mono ?_;rintro e w1 ⟨rfl,rfl⟩)
    |(go_at_call 172;refine (C2.out _).mono ?_;rintro e w1 ⟨rfl,rfl⟩))
   go_ret;exact ⟨by rw [E.out];rfl,vAw _ _⟩
 · by_cases e2:x=vEy
   · subst e2
     have d1:(vEy == ([97,99,99,101,115,115]:List UInt8))=false:=by decide
     have d2:(vEy == ([116,114,117,110,107]:List UInt8))=true:=by decide
     go_enter Tryz.func138,Tryz.ntmps138
     go_wp2_with (first
     |(go_at_call 171;refine (C1.out _).mono ?_;rintro e w1 ⟨rfl,rfl⟩)
     |(go_at_call 172;refine (C2.out _).mono ?_;rintro e w1 ⟨rfl,rfl⟩))
     go_ret;exact ⟨by rw [E.out];rfl,vAw _ _⟩
   · have d1:(x == ([97,99,99,101,115,115]:List UInt8))=false:=by rw [beq_eq_false_iff_ne];exact e1
     have d2:(x == ([116,114,117,110,107]:List UInt8))=false:=by rw [beq_eq_false_iff_ne];exact e2
     have E2:=hid (show ((x == vDe) || (x == vEy))=false by
      rw [show (x == vDe)=false from d1,show (x == vEy)=false from d2];rfl)
     clear e1 e2
     go_enter Tryz.func138,Tryz.ntmps138
     go_wp2_with (first
     |(go_at_call 171;refine (C1.out _).mono ?_;rintro e w1 ⟨rfl,rfl⟩)
     |(go_at_call 172;refine (C2.out _).mono ?_;rintro e w1 ⟨rfl,rfl⟩))
     go_ret;exact ⟨by rw [E.out,E2.out];rfl,vAw _ _⟩
theorem may_2 (V:WV) (t1 t2:SlV) (w:World) (hv:VOk V) (h:vFa w V t1 t2):Calls Tryz.prog 138 #[.int .i64 2,vHm V t1 t2] w (vGu (vCo 2 V) w):=by
 have C1:=hid (show ∀w,Calls Tryz.prog 171 #[.int .i64 2] w fun e w'=>e=.returned (.bool false)∧w=w' from fun w=>vCm 2 (by decide) w);have C2:=hid (show ∀w,Calls Tryz.prog 172 #[.int .i64 2] w fun e w'=>e=.returned (.tuple #[.int .i64 0,.int .i64 65535])∧w=w' from fun w=>vCp 2 (by decide) w);obtain ⟨x,n,mc,ad,xs,ys⟩:=V;obtain ⟨A1,n1,c1⟩:=t1;obtain ⟨A2,n2,c2⟩:=t2;have H1:=hid h.1
 have H2:=hid h.2;have VO:=hid hv;have hl1:=h.1.le;have hc1:=h.1.cap;have hn1:=h.1.len;clear h hv;dsimp only at hl1 hc1 hn1;unfold vHm;dsimp only;have E:=hid (show vCo 2 ⟨x,n,mc,ad,xs,ys⟩=(decide (0≤n) && decide (n≤65535)) by rw [vBe rfl];rfl)
 by_cases e1:0≤n
 · have E2:=hid (show (decide (0≤n) && decide (n≤65535))=decide (n≤65535) by rw [decide_eq_true e1,Bool.true_and])
   go_enter Tryz.func138,Tryz.ntmps138
   go_wp2_with (first
    |(go_at_call 171;refine (C1.out _).mono ?_;rintro e w1 ⟨rfl,rfl⟩)
    |(go_at_call 172;refine (C2.out _).mono ?_;rintro e w1 ⟨rfl,rfl⟩))
   go_ret;exact ⟨by rw [E.out,E2.out];rfl,vAw _ _⟩
 · have E2:=hid (show (decide (0≤n) && decide (n≤65535))=false by rw [decide_eq_false e1,Bool.false_and])
   go_enter Tryz.func138,Tryz.ntmps138
   go_wp2_with (first
    |(go_at_call 171;refine (C1.out _).mono ?_;rintro e w1 ⟨rfl,rfl⟩)
    |(go_at_call 172;refine (C2.out _).mono ?_;rintro e w1 ⟨rfl,rfl⟩))
   go_ret;exact ⟨by rw [E.out,E2.out];rfl,vAw _ _⟩
theorem may_3 (V:WV) (t1 t2:SlV) (w:World) (hv:VOk V) (h:vFa w V t1 t2):Calls Tryz.prog 138 #[.int .i64 3,vHm V t1 t2] w (vGu (vCo 3 V) w):=by
 have C1:=hid (show ∀w,Calls Tryz.prog 171 #[.int .i64 3] w fun e w'=>e=.returned (.bool false)∧w=w' from fun w=>vCm 3 (by decide) w);have C2:=hid (show ∀w,Calls Tryz.prog 172 #[.int .i64 3] w fun e w'=>e=.returned (.tuple #[.int .i64 1,.int .i64 65535])∧w=w' from fun w=>vCp 3 (by decide) w);obtain ⟨x,n,mc,ad,xs,ys⟩:=V;obtain ⟨A1,n1,c1⟩:=t1;obtain ⟨A2,n2,c2⟩:=t2;have H1:=hid h.1
 have H2:=hid h.2;have VO:=hid hv;have hl1:=h.1.le;have hc1:=h.1.cap;have hn1:=h.1.len;clear h hv;dsimp only at hl1 hc1 hn1;unfold vHm;dsimp only;have E:=hid (show vCo 3 ⟨x,n,mc,ad,xs,ys⟩=(decide (1≤n) && decide (n≤65535)) by rw [vBe rfl];rfl)
 by_cases e1:1≤n
 · have E2:=hid (show (decide (1≤n) && decide (n≤65535))=decide (n≤65535) by rw [decide_eq_true e1,Bool.true_and])
   go_enter Tryz.func138,Tryz.ntmps138
   go_wp2_with (first
    |(go_at_call 171;refine (C1.out _).mono ?_;rintro e w1 ⟨rfl,rfl⟩)
    |(go_at_call 172;refine (C2.out _).mono ?_;rintro e w1 ⟨rfl,rfl⟩))
   go_ret;exact ⟨by rw [E.out,E2.out];rfl,vAw _ _⟩
 · have E2:=hid (show (decide (1≤n) && decide (n≤65535))=false by rw [decide_eq_false e1,Bool.false_and])
   go_enter Tryz.func138,Tryz.ntmps138
   go_wp2_with (first
    |(go_at_call 171;refine (C1.out _).mono ?_;rintro e w1 ⟨rfl,rfl⟩)
    |(go_at_call 172;refine (C2.out _).mono ?_;rintro e w1 ⟨rfl,rfl⟩))
   go_ret;exact ⟨by rw [E.out,E2.out];rfl,vAw _ _⟩
theorem may_4 (V:WV) (t1 t2:SlV) (w:World) (hv:VOk V) (h:vFa w V t1 t2):Calls Tryz.prog 138 #[.int .i64 4,vHm V t1 t2] w (vGu (vCo 4 V) w):=by
 have C1:=hid (show ∀w,Calls Tryz.prog 171 #[.int .i64 4] w fun e w'=>e=.returned (.bool false)∧w=w' from fun w=>vCm 4 (by decide) w);have C2:=hid (show ∀w,Calls Tryz.prog 172 #[.int .i64 4] w fun e w'=>e=.returned (.tuple #[.int .i64 1,.int .i64 4094])∧w=w' from fun w=>vCp 4 (by decide) w);obtain ⟨x,n,mc,ad,xs,ys⟩:=V;obtain ⟨A1,n1,c1⟩:=t1;obtain ⟨A2,n2,c2⟩:=t2;have H1:=hid h.1
 have H2:=hid h.2;have VO:=hid hv;have hl1:=h.1.le;have hc1:=h.1.cap;have hn1:=h.1.len;clear h hv;dsimp only at hl1 hc1 hn1;unfold vHm;dsimp only;have E:=hid (show vCo 4 ⟨x,n,mc,ad,xs,ys⟩=(decide (1≤n) && decide (n≤4094)) by rw [vBe rfl];rfl)
 by_cases e1:1≤n
 · have E2:=hid (show (decide (1≤n) && decide (n≤4094))=decide (n≤4094) by rw [decide_eq_true e1,Bool.true_and])
   go_enter Tryz.func138,Tryz.ntmps138
   go_wp2_with (first
    |(go_at_call 171;refine (C1.out _).mono ?_;rintro e w1 ⟨rfl,rfl⟩)
    |(go_at_call 172;refine (C2.out _).mono ?_;rintro e w1 ⟨rfl,rfl⟩))
   go_ret;exact ⟨by rw [E.out,E2.out];rfl,vAw _ _⟩
 · have E2:=hid (show (decide (1≤n) && decide (n≤4094))=false by rw [decide_eq_false e1,Bool.false_and])
   go_enter Tryz.func138,Tryz.ntmps138
   go_wp2_with (first
    |(go_at_call 171;refine (C1.out _).mono ?_;rintro e w1 ⟨rfl,rfl⟩)
    |(go_at_call 172;refine (C2.out _).mono ?_;rintro e w1 ⟨rfl,rfl⟩))
   go_ret;exact ⟨by rw [E.out,E2.out];rfl,vAw _ _⟩
theorem may_5 (V:WV) (t1 t2:SlV) (w:World) (hv:VOk V) (h:vFa w V t1 t2):Calls Tryz.prog 138 #[.int .i64 5,vHm V t1 t2] w (vGu (vCo 5 V) w):=by
 have C1:=hid (show ∀w,Calls Tryz.prog 171 #[.int .i64 5] w fun e w'=>e=.returned (.bool true)∧w=w' from fun w=>vCm 5 (by decide) w);have C2:=hid (show ∀w,Calls Tryz.prog 172 #[.int .i64 5] w fun e w'=>e=.returned (.tuple #[.int .i64 1,.int .i64 4094])∧w=w' from fun w=>vCp 5 (by decide) w);obtain ⟨x,n,mc,ad,xs,ys⟩:=V;obtain ⟨A1,n1,c1⟩:=t1;obtain ⟨A2,n2,c2⟩:=t2;have H1:=hid h.1;have H2:=hid h.2
 have VO:=hid hv;have hl1:=h.1.le;have hc1:=h.1.cap;have hn1:=h.1.len;clear h hv;dsimp only at hl1 hc1 hn1;unfold vHm;dsimp only
 by_cases n0:n=0
 · by_cases l0:n1=0
   · have E:=hid (show vCo 5 ⟨x,n,mc,ad,xs,ys⟩=true from may_opt rfl n0 (List.eq_nil_of_length_eq_zero (hn1.trans l0)))
     subst n0 l0
     go_enter Tryz.func138,Tryz.ntmps138
     go_wp2_with (first
     |(go_at_call 171;refine (C1.out _).mono ?_;rintro e w1 ⟨rfl,rfl⟩)
     |(go_at_call 172;refine (C2.out _).mono ?_;rintro e w1 ⟨rfl,rfl⟩))
     go_ret;exact ⟨by rw [E.out];rfl,vAw _ _⟩
   · have E:=hid (show vCo 5 ⟨x,n,mc,ad,xs,ys⟩=(decide (1≤n) && decide (n≤4094)) by rw [may_w (fun g=>l0 (by rw [←hn1];exact congrArg List.length (show xs=[] from g.2)))];rfl)
     have d0:((n1:Int) == 0)=false:=by simpa using l0
     have E3:=hid (show (decide (1≤n) && decide (n≤4094))=false by rw [n0];rfl);subst n0
     go_enter Tryz.func138,Tryz.ntmps138
     go_wp2_with (first
      |(go_at_call 171;refine (C1.out _).mono ?_;rintro e w1 ⟨rfl,rfl⟩)
      |(go_at_call 172;refine (C2.out _).mono ?_;rintro e w1 ⟨rfl,rfl⟩))
     go_ret;exact ⟨by rw [E.out,E3.out];rfl,vAw _ _⟩
 · have E:=hid (show vCo 5 ⟨x,n,mc,ad,xs,ys⟩=(decide (1≤n) && decide (n≤4094)) by rw [may_w (fun g=>n0 g.1)];rfl)
   have d0:(n == 0)=false:=by simpa using n0
   by_cases e1:1≤n
   · have E2:=hid (show (decide (1≤n) && decide (n≤4094))=decide (n≤4094) by rw [decide_eq_true e1,Bool.true_and])
     go_enter Tryz.func138,Tryz.ntmps138
     go_wp2_with (first
      |(go_at_call 171;refine (C1.out _).mono ?_;rintro e w1 ⟨rfl,rfl⟩)
      |(go_at_call 172;refine (C2.out _).mono ?_;rintro e w1 ⟨rfl,rfl⟩))
     go_ret;exact ⟨by rw [E.out,E2.out];rfl,vAw _ _⟩
   · have E2:=hid (show (decide (1≤n) && decide (n≤4094))=false by rw [decide_eq_false e1,Bool.false_and])
     go_enter Tryz.func138,Tryz.ntmps138
     go_wp2_with (first
      |(go_at_call 171;refine (C1.out _).mono ?_;rintro e w1 ⟨rfl,rfl⟩)
      |(go_at_call 172;refine (C2.out _).mono ?_;rintro e w1 ⟨rfl,rfl⟩))
     go_ret;exact ⟨by rw [E.out,E2.out];rfl,vAw _ _⟩
theorem may_6 (V:WV) (t1 t2:SlV) (w:World) (hv:VOk V) (h:vFa w V t1 t2):Calls Tryz.prog 138 #[.int .i64 6,vHm V t1 t2] w (vGu (vCo 6 V) w):=by
 have C1:=hid (show ∀w,Calls Tryz.prog 171 #[.int .i64 6] w fun e w'=>e=.returned (.bool false)∧w=w' from fun w=>vCm 6 (by decide) w);have C2:=hid (show ∀w,Calls Tryz.prog 172 #[.int .i64 6] w fun e w'=>e=.returned (.tuple #[.int .i64 1,.int .i64 16777215])∧w=w' from fun w=>vCp 6 (by decide) w);obtain ⟨x,n,mc,ad,xs,ys⟩:=V;obtain ⟨A1,n1,c1⟩:=t1;obtain ⟨A2,n2,c2⟩:=t2;have H1:=hid h.1
 have H2:=hid h.2;have VO:=hid hv;have hl1:=h.1.le;have hc1:=h.1.cap;have hn1:=h.1.len;clear h hv;dsimp only at hl1 hc1 hn1;unfold vHm;dsimp only;have E:=hid (show vCo 6 ⟨x,n,mc,ad,xs,ys⟩=(decide (1≤n) && decide (n≤16777215)) by rw [vBe rfl];rfl)
 by_cases e1:1≤n
 · have E2:=hid (show (decide (1≤n) && decide (n≤16777215))=decide (n≤16777215) by rw [decide_eq_true e1,Bool.true_and])
   go_enter Tryz.func138,Tryz.ntmps138
   go_wp2_with (first
    |(go_at_call 171;refine (C1.out _).mono ?_;rintro e w1 ⟨rfl,rfl⟩)
    |(go_at_call 172;refine (C2.out _).mono ?_;rintro e w1 ⟨rfl,rfl⟩))
   go_ret;exact ⟨by rw [E.out,E2.out];rfl,vAw _ _⟩
 · have E2:=hid (show (decide (1≤n) && decide (n≤16777215))=false by rw [decide_eq_false e1,Bool.false_and])
   go_enter Tryz.func138,Tryz.ntmps138
   go_wp2_with (first
    |(go_at_call 171;refine (C1.out _).mono ?_;rintro e w1 ⟨rfl,rfl⟩)
    |(go_at_call 172;refine (C2.out _).mono ?_;rintro e w1 ⟨rfl,rfl⟩))
   go_ret;exact ⟨by rw [E.out,E2.out];rfl,vAw _ _⟩
theorem may_7 (V:WV) (t1 t2:SlV) (w:World) (hv:VOk V) (h:vFa w V t1 t2):Calls Tryz.prog 138 #[.int .i64 7,vHm V t1 t2] w (vGu (vCo 7 V) w):=by
 have C1:=hid (show ∀w,Calls Tryz.prog 171 #[.int .i64 7] w fun e w'=>e=.returned (.bool false)∧w=w' from fun w=>vCm 7 (by decide) w);have C2:=hid (show ∀w,Calls Tryz.prog 172 #[.int .i64 7] w fun e w'=>e=.returned (.tuple #[.int .i64 0,.int .i64 0])∧w=w' from fun w=>vCp 7 (by decide) w);obtain ⟨x,n,mc,ad,xs,ys⟩:=V;obtain ⟨A1,n1,c1⟩:=t1;obtain ⟨A2,n2,c2⟩:=t2;have H1:=hid h.1;have H2:=hid h.2
 have VO:=hid hv;have hl1:=h.1.le;have hc1:=h.1.cap;have hn1:=h.1.len;clear h hv;dsimp only at hl1 hc1 hn1;unfold vHm;dsimp only;have E:=hid (show vCo 7 ⟨x,n,mc,ad,xs,ys⟩=loneB mc by rw [vBe rfl];rfl)
 go_enter Tryz.func138,Tryz.ntmps138
 go_wp2_with (first
  |(go_at_call 171;refine (C1.out _).mono ?_;rintro e w1 ⟨rfl,rfl⟩)
  |(go_at_call 172;refine (C2.out _).mono ?_;rintro e w1 ⟨rfl,rfl⟩)
  |(go_at_call 174;refine (lone_any mc _ VO.out.mac.1 VO.out.mac.2).mono ?_;rintro e w1 ⟨rfl,rfl⟩))
 go_ret;exact ⟨by rw [E.out];rfl,vAw _ _⟩
theorem may_8 (V:WV) (t1 t2:SlV) (w:World) (hv:VOk V) (h:vFa w V t1 t2):Calls Tryz.prog 138 #[.int .i64 8,vHm V t1 t2] w (vGu (vCo 8 V) w):=by
 have C1:=hid (show ∀w,Calls Tryz.prog 171 #[.int .i64 8] w fun e w'=>e=.returned (.bool false)∧w=w' from fun w=>vCm 8 (by decide) w);have C2:=hid (show ∀w,Calls Tryz.prog 172 #[.int .i64 8] w fun e w'=>e=.returned (.tuple #[.int .i64 0,.int .i64 0])∧w=w' from fun w=>vCp 8 (by decide) w);obtain ⟨x,n,mc,ad,xs,ys⟩:=V;obtain ⟨A1,n1,c1⟩:=t1;obtain ⟨A2,n2,c2⟩:=t2;have H1:=hid h.1;have H2:=hid h.2
 have VO:=hid hv;have hl1:=h.1.le;have hc1:=h.1.cap;have hn1:=h.1.len;clear h hv;dsimp only at hl1 hc1 hn1;unfold vHm;dsimp only;have E:=hid (show vCo 8 ⟨x,n,mc,ad,xs,ys⟩=(ad != 0) by rw [vBe rfl];show (!decide (ad=0))=(ad != 0);rw [Bool.eq_iff_iff];simp)
 go_enter Tryz.func138,Tryz.ntmps138
 go_wp2_with (first
  |(go_at_call 171;refine (C1.out _).mono ?_;rintro e w1 ⟨rfl,rfl⟩)
  |(go_at_call 172;refine (C2.out _).mono ?_;rintro e w1 ⟨rfl,rfl⟩))
 go_ret;exact ⟨by rw [E.out];rfl,vAw _ _⟩
theorem may_9 (V:WV) (t1 t2:SlV) (w:World) (hv:VOk V) (h:vFa w V t1 t2):Calls Tryz.prog 138 #[.int .i64 9,vHm V t1 t2] w (vGu (vCo 9 V) w):=by
 have C1:=hid (show ∀w,Calls Tryz.prog 171 #[.int .i64 9] w fun e w'=>e=.returned (.bool false)∧w=w' from fun w=>vCm 9 (by decide) w);have C2:=hid (show ∀w,Calls Tryz.prog 172 #[.int .i64 9] w fun e w'=>e=.returned (.tuple #[.int .i64 0,.int .i64 0])∧w=w' from fun w=>vCp 9 (by decide) w);obtain ⟨x,n,mc,ad,xs,ys⟩:=V;obtain ⟨A1,n1,c1⟩:=t1;obtain ⟨A2,n2,c2⟩:=t2;have H1:=hid h.1;have H2:=hid h.2
 have VO:=hid hv;have hl1:=h.1.le;have hc1:=h.1.cap;have hn1:=h.1.len;clear h hv;dsimp only at hl1 hc1 hn1;unfold vHm;dsimp only;have E:=hid (show vCo 9 ⟨x,n,mc,ad,xs,ys⟩=snB ad n by rw [vBe rfl];rfl)
 go_enter Tryz.func138,Tryz.ntmps138
 go_wp2_with (first
  |(go_at_call 171;refine (C1.out _).mono ?_;rintro e w1 ⟨rfl,rfl⟩)
  |(go_at_call 172;refine (C2.out _).mono ?_;rintro e w1 ⟨rfl,rfl⟩)
  |(go_at_call 175;refine (inner_any ad n VO.out.addr.1 VO.out.addr.2 _).mono ?_;rintro e w1 ⟨rfl,hb1⟩))
 go_ret;exact ⟨by rw [E.out];rfl,vEo hb1⟩
theorem may_10 (V:WV) (t1 t2:SlV) (w:World) (hv:VOk V) (h:vFa w V t1 t2):Calls Tryz.prog 138 #[.int .i64 10,vHm V t1 t2] w (vGu (vCo 10 V) w):=by
 have C1:=hid (show ∀w,Calls Tryz.prog 171 #[.int .i64 10] w fun e w'=>e=.returned (.bool true)∧w=w' from fun w=>vCm 10 (by decide) w);have C2:=hid (show ∀w,Calls Tryz.prog 172 #[.int .i64 10] w fun e w'=>e=.returned (.tuple #[.int .i64 1,.int .i64 4094])∧w=w' from fun w=>vCp 10 (by decide) w);obtain ⟨x,n,mc,ad,xs,ys⟩:=V;obtain ⟨A1,n1,c1⟩:=t1;obtain ⟨A2,n2,c2⟩:=t2;have H1:=hid h.1
 have H2:=hid h.2;have VO:=hid hv;have hl1:=h.1.le;have hc1:=h.1.cap;have hn1:=h.1.len;clear h hv;dsimp only at hl1 hc1 hn1;unfold vHm;dsimp only
 by_cases n0:n=0
 · by_cases l0:n1=0
   · have E:=hid (show vCo 10 ⟨x,n,mc,ad,xs,ys⟩=true from may_opt rfl n0 (List.eq_nil_of_length_eq_zero (hn1.trans l0)))
     subst n0 l0
     go_enter Tryz.func138,Tryz.ntmps138
     go_wp2_with (first
     |(go_at_call 171;refine (C1.out _).mono ?_;rintro e w1 ⟨rfl,rfl⟩)
     |(go_at_call 172;refine (C2.out _).mono ?_;rintro e w1 ⟨rfl,rfl⟩))
     go_ret;exact ⟨by rw [E.out];rfl,vAw _ _⟩
   · have E:=hid (show vCo 10 ⟨x,n,mc,ad,xs,ys⟩=vBs xs 1 4094 by rw [may_w (fun g=>l0 (by rw [←hn1];exact congrArg List.length (show xs=[] from g.2)))];rfl)
     have d0:((n1:Int) == 0)=false:=by simpa using l0
     subst n0
     go_enter Tryz.func138,Tryz.ntmps138
     go_wp2_with (first
      |(go_at_call 171;refine (C1.out _).mono ?_;rintro e w1 ⟨rfl,rfl⟩)
      |(go_at_call 172;refine (C2.out _).mono ?_;rintro e w1 ⟨rfl,rfl⟩)
      |(go_at_call 133;refine (ris_any A1 n1 c1 xs 1 4094 _ (H1.out.alloc _)).mono ?_;rintro e w1 ⟨rfl,hd1⟩))
     go_ret;exact ⟨by rw [E.out];rfl,vEo hd1.below⟩
 · have E:=hid (show vCo 10 ⟨x,n,mc,ad,xs,ys⟩=vBs xs 1 4094 by rw [may_w (fun g=>n0 g.1)];rfl)
   have d0:(n == 0)=false:=by simpa using n0
   go_enter Tryz.func138,Tryz.ntmps138
   go_wp2_with (first
    |(go_at_call 171;refine (C1.out _).mono ?_;rintro e w1 ⟨rfl,rfl⟩)
    |(go_at_call 172;refine (C2.out _).mono ?_;rintro e w1 ⟨rfl,rfl⟩)
    |(go_at_call 133;refine (ris_any A1 n1 c1 xs 1 4094 _ (H1.out.alloc _)).mono ?_;rintro e w1 ⟨rfl,hd1⟩))
   go_ret;exact ⟨by rw [E.out];rfl,vEo hd1.below⟩
theorem may_11 (V:WV) (t1 t2:SlV) (w:World) (hv:VOk V) (h:vFa w V t1 t2):Calls Tryz.prog 138 #[.int .i64 11,vHm V t1 t2] w (vGu (vCo 11 V) w):=by
 have C1:=hid (show ∀w,Calls Tryz.prog 171 #[.int .i64 11] w fun e w'=>e=.returned (.bool true)∧w=w' from fun w=>vCm 11 (by decide) w);have C2:=hid (show ∀w,Calls Tryz.prog 172 #[.int .i64 11] w fun e w'=>e=.returned (.tuple #[.int .i64 1,.int .i64 65535])∧w=w' from fun w=>vCp 11 (by decide) w);obtain ⟨x,n,mc,ad,xs,ys⟩:=V;obtain ⟨A1,n1,c1⟩:=t1;obtain ⟨A2,n2,c2⟩:=t2;have H1:=hid h.1
 have H2:=hid h.2;have VO:=hid hv;have hl1:=h.1.le;have hc1:=h.1.cap;have hn1:=h.1.len;clear h hv;dsimp only at hl1 hc1 hn1;unfold vHm;dsimp only
 by_cases n0:n=0
 · by_cases l0:n1=0
   · have E:=hid (show vCo 11 ⟨x,n,mc,ad,xs,ys⟩=true from may_opt rfl n0 (List.eq_nil_of_length_eq_zero (hn1.trans l0)))
     subst n0 l0
     go_enter Tryz.func138,Tryz.ntmps138
     go_wp2_with (first
     |(go_at_call 171;refine (C1.out _).mono ?_;rintro e w1 ⟨rfl,rfl⟩)
     |(go_at_call 172;refine (C2.out _).mono ?_;rintro e w1 ⟨rfl,rfl⟩))
     go_ret;exact ⟨by rw [E.out];rfl,vAw _ _⟩
   · have E:=hid (show vCo 11 ⟨x,n,mc,ad,xs,ys⟩=vBs xs 1 65535 by rw [may_w (fun g=>l0 (by rw [←hn1];exact congrArg List.length (show xs=[] from g.2)))];rfl)
     have d0:((n1:Int) == 0)=false:=by simpa using l0
     subst n0
     go_enter Tryz.func138,Tryz.ntmps138
     go_wp2_with (first
      |(go_at_call 171;refine (C1.out _).mono ?_;rintro e w1 ⟨rfl,rfl⟩)
      |(go_at_call 172;refine (C2.out _).mono ?_;rintro e w1 ⟨rfl,rfl⟩)
      |(go_at_call 133;refine (ris_any A1 n1 c1 xs 1 65535 _ (H1.out.alloc _)).mono ?_;rintro e w1 ⟨rfl,hd1⟩))
     go_ret;exact ⟨by rw [E.out];rfl,vEo hd1.below⟩
 · have E:=hid (show vCo 11 ⟨x,n,mc,ad,xs,ys⟩=vBs xs 1 65535 by rw [may_w (fun g=>n0 g.1)];rfl)
   have d0:(n == 0)=false:=by simpa using n0
   go_enter Tryz.func138,Tryz.ntmps138
   go_wp2_with (first
    |(go_at_call 171;refine (C1.out _).mono ?_;rintro e w1 ⟨rfl,rfl⟩)
    |(go_at_call 172;refine (C2.out _).mono ?_;rintro e w1 ⟨rfl,rfl⟩)
    |(go_at_call 133;refine (ris_any A1 n1 c1 xs 1 65535 _ (H1.out.alloc _)).mono ?_;rintro e w1 ⟨rfl,hd1⟩))
   go_ret;exact ⟨by rw [E.out];rfl,vEo hd1.below⟩
theorem may_12 (V:WV) (t1 t2:SlV) (w:World) (hv:VOk V) (h:vFa w V t1 t2):Calls Tryz.prog 138 #[.int .i64 12,vHm V t1 t2] w (vGu (vCo 12 V) w):=by
 have C1:=hid (show ∀w,Calls Tryz.prog 171 #[.int .i64 12] w fun e w'=>e=.returned (.bool false)∧w=w' from fun w=>vCm 12 (by decide) w);have C2:=hid (show ∀w,Calls Tryz.prog 172 #[.int .i64 12] w fun e w'=>e=.returned (.tuple #[.int .i64 0,.int .i64 0])∧w=w' from fun w=>vCp 12 (by decide) w);obtain ⟨x,n,mc,ad,xs,ys⟩:=V;obtain ⟨A1,n1,c1⟩:=t1;obtain ⟨A2,n2,c2⟩:=t2;have H1:=hid h.1
 have H2:=hid h.2;have VO:=hid hv;have hl1:=h.1.le;have hc1:=h.1.cap;have hn1:=h.1.len;clear h hv;dsimp only at hl1 hc1 hn1;unfold vHm;dsimp only;have E:=hid (show vCo 12 ⟨x,n,mc,ad,xs,ys⟩=risA ys by rw [vBe rfl];rfl)
 go_enter Tryz.func138,Tryz.ntmps138
 go_wp2_with (first
  |(go_at_call 171;refine (C1.out _).mono ?_;rintro e w1 ⟨rfl,rfl⟩)
  |(go_at_call 172;refine (C2.out _).mono ?_;rintro e w1 ⟨rfl,rfl⟩)
  |(go_at_call 176;refine (ris_any2 ⟨A2,n2,c2⟩ ys _ (H2.out.alloc _)).mono ?_;rintro e w1 ⟨rfl,rfl⟩))
 go_ret;exact ⟨by rw [E.out];rfl,vAw _ _⟩
theorem may_any (k:Nat) (hk:k<13) (V:WV) (t1 t2:SlV) (w:World) (hv:VOk V) (h:vFa w V t1 t2):Calls Tryz.prog 138 #[.int .i64 (k:Int),vHm V t1 t2] w (vGu (vCo k V) w):=by
 match k,hk with
 |0,_=>exact may_0 V t1 t2 w hv h
 |1,_=>exact may_1 V t1 t2 w hv h
 |2,_=>exact may_2 V t1 t2 w hv h
 |3,_=>exact may_3 V t1 t2 w hv h
 |4,_=>exact may_4 V t1 t2 w hv h
 |5,_=>exact may_5 V t1 t2 w hv h
 |6,_=>exact may_6 V t1 t2 w hv h
 |7,_=>exact may_7 V t1 t2 w hv h
 |8,_=>exact may_8 V t1 t2 w hv h
 |9,_=>exact may_9 V t1 t2 w hv h
 |10,_=>exact may_10 V t1 t2 w hv h
 |11,_=>exact may_11 V t1 t2 w hv h
 |12,_=>exact may_12 V t1 t2 w hv h
 |k+13,h=>exact absurd h (by omega)
end Go.Proofs.YtgmflecelnefcaaGreat
