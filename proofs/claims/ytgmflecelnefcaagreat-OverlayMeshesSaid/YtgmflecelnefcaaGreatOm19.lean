import Derived.Test.YtgmflecelnefcaaGreatOm18
set_option maxRecDepth 100000
set_option maxHeartbeats 40000000
namespace Go.Proofs.YtgmflecelnefcaaGreat
open Go.RowKit
noncomputable def sameB (L M:LV):Bool:=@decide (L=M) (Classical.propDecidable _)
theorem sameB_iff (L M:LV):sameB L M=true↔L=M:=by unfold sameB;exact @decide_eq_true_iff _ (Classical.propDecidable _)
theorem sameB_self (L:LV):sameB L L=true:=(sameB_iff L L).2 rfl
noncomputable def rgRun:List (Nat×Nat)→LV→Option LV
 | [],L=>some L
 |(w,f) :: ps,L=>if mayB w (ftake f L WV.zero)=true then rgRun ps (fput f L WV.zero) else none
noncomputable def rgB (L:LV):Bool:=match rgRun (pts L.kind true) L with
 |none=>false
 |some M=>(decide (0<(pts L.kind true).length) && apB L) && sameB M (LV.new L.row L.kind)
theorem rgB_some {L M:LV} (h:rgRun (pts L.kind true) L=some M):rgB L=((decide (0<(pts L.kind true).length) && apB L) && sameB M (LV.new L.row L.kind)):=by
 unfold rgB;rw [h]
theorem rgB_none {L:LV} (h:rgRun (pts L.kind true) L=none):rgB L=false:=by
 unfold rgB;rw [h]
theorem rgB_yes {L:LV} (h:rgB L=true):pts L.kind true≠[]∧rgRun (pts L.kind true) L=some (LV.new L.row L.kind):=by
 cases hr:rgRun (pts L.kind true) L with
 |none=>rw [rgB_none hr] at h;cases h
 |some M=>
  rw [rgB_some hr,Bool.and_eq_true,Bool.and_eq_true,decide_eq_true_eq,sameB_iff] at h;refine ⟨fun e=>?_,by rw [h.2]⟩;rw [e] at h;exact absurd h.1.1 (by decide)
theorem pts_cases {P:List (Nat×Nat)→Prop} (k:Int) (tg:Bool) (h1:P [(0,0),(2,6),(7,9)]) (h2:P [(0,0),(0,1),(3,8),(1,5),(5,7),(10,12)]) (h0:P [(0,0),(0,1),(3,8),(1,5),(4,7)]) (h3:P [(0,0),(0,1),(0,2),(0,3)])
 (h4:P [(0,0),(4,7),(7,9),(0,1)]) (h5:P [(0,0),(8,10)]) (h6:P [(0,0),(4,7),(6,6)]) (h7:P [(0,0),(6,6),(12,15)]) (h8:P [(0,0),(0,4),(11,13),(11,14)]) (h9:P [(0,0),(4,7),(0,4),(9,11)]) (hn:P []):P (pts k tg):=by
 unfold pts
 repeat' split
 all_goals assumption
theorem pts_no (k:Int) (tg:Bool) (h:k<1∨9<k):pts k tg=[]:=by
 unfold pts;rw [if_neg (by omega),if_neg (by omega),if_neg (by omega),if_neg (by omega),if_neg (by omega),if_neg (by omega),if_neg (by omega),if_neg (by omega),if_neg (by omega)]
theorem may0 {s:List UInt8} (h:nmB s=true):mayB 0 {WV.zero with text:=s}=true:=by rw [may_plain rfl];exact h
theorem may_num {w:Nat} {lo hi x:Int} (hw:mayW w {WV.zero with n:=x}=(decide (lo≤x) && decide (x≤hi))) (h0:lo≤x) (h1:x≤hi):mayB w {WV.zero with n:=x}=true:=by
 unfold mayB
 split
 · rfl
 · rw [hw,decide_eq_true h0,decide_eq_true h1];rfl
theorem may5 {x:Int} (h0:0≤x) (h1:x≤4094):mayB 5 {WV.zero with n:=x}=true:=by
 by_cases e:x=0
 · subst e;rfl
 · exact may_num (w:=5) (lo:=1) (hi:=4094) rfl (by omega) h1
theorem may7 {m:Int} (h:McOk m):mayB 7 {WV.zero with mac:=m}=true:=by
 rw [may_plain rfl]
 show loneB m=true
 have h2:=h.2.2;unfold stB at h2;unfold loneB;rw [decide_eq_true (by have:=h.2.1;omega),Bool.true_and,Bool.and_comm];exact h2
theorem may8 {a:Int} (h:0<a):mayB 8 {WV.zero with addr:=a}=true:=by
 rw [may_plain rfl]
 show (!decide (a=0))=true
 rw [decide_eq_false (by omega)]
 rfl
theorem may9 {a b:Int} (h:snB a b=true):mayB 9 {WV.zero with addr:=a,n:=b}=true:=by rw [may_plain rfl];exact h
theorem may10 {xs:List Int} (h:LsOk 4094 xs):mayB 10 {WV.zero with list:=xs}=true:=by
 rcases h with rfl|h
 · rfl
 · exact may_list 10 xs h
theorem may11 {xs:List Int} (h:LsOk 65535 xs):mayB 11 {WV.zero with list:=xs}=true:=by
 rcases h with rfl|h
 · rfl
 · exact may_list 11 xs h
theorem may12 {xs:List Int} {hi:Int} (h:risIn xs 0 hi=true) (h0:0<xs.getD 0 0):mayB 12 {WV.zero with addrs:=xs}=true:=by
 rw [may_plain rfl]
 show risA xs=true
 rw [risA_of h,decide_eq_true h0]
theorem rgB_of {L:LV} {ps:List (Nat×Nat)} (hp:pts L.kind true=ps) (h0:0<ps.length) (ha:apB L=true) (h:rgRun ps L=some (LV.new L.row L.kind)):rgB L=true:=by
 rw [rgB_some (M:=LV.new L.row L.kind) (by rw [hp];exact h),hp,decide_eq_true h0,ha,sameB_self]
 rfl
theorem rg_step {w f:Nat} {ps:List (Nat×Nat)} {L M:LV} (h:mayB w (ftake f L WV.zero)=true) (g:rgRun ps (fput f L WV.zero)=some M):rgRun ((w,f) :: ps) L=some M:=by
 rw [rgRun,if_pos h];exact g
theorem rgB_read (row:Int) (L:LV) (h:RdK row L):rgB L=true:=by
 rcases h with h|⟨h,hm⟩|h|h|h|h|h|h|h
 · obtain ⟨s,a,m,rfl,hs,ha,hm⟩:=h
   refine rgB_of (ps:=[(0,0),(2,6),(7,9)]) rfl (by decide) rfl ?_;exact rg_step (may0 hs) (rg_step (may_num (w:=2) (lo:=0) (hi:=65535) rfl ha.1 ha.2) (rg_step (may7 hm) (show rgRun [] _=some _ from rfl)))
 · obtain ⟨s,p,c,v,t,e,hs,hp,hc,hv,ht⟩:=h
   have hap:apB L=true:=by
    have h1:=ap_mb L (.inr (by rw [e];exact hv.1));rw [hm,if_neg (c:=L.kind=2∧true=false) (by rintro ⟨_,h⟩;cases h)] at h1
    by_cases hA:apB L=true
    · exact hA
    · rw [if_neg hA] at h1;cases h1
   subst e;refine rgB_of (ps:=[(0,0),(0,1),(3,8),(1,5),(5,7),(10,12)]) rfl (by decide) hap ?_;exact rg_step (may0 hs) (rg_step (may0 hp) (rg_step (may_num (w:=3) (lo:=1) (hi:=65535) rfl hc.1 hc.2) (rg_step (by rfl) (rg_step (may5 hv.1 hv.2) (rg_step (may10 ht) (show rgRun [] _=some _ from rfl))))))
 · obtain ⟨s,p,q,r,rfl,hs,hp,hq,hr⟩:=h
   refine rgB_of (ps:=[(0,0),(0,1),(0,2),(0,3)]) rfl (by decide) rfl ?_;exact rg_step (may0 hs) (rg_step (may0 hp) (rg_step (may0 hq) (rg_step (may0 hr) (show rgRun [] _=some _ from rfl))))
 · obtain ⟨s,v,m,p,rfl,hs,hv,hm,hp⟩:=h
   refine rgB_of (ps:=[(0,0),(4,7),(7,9),(0,1)]) rfl (by decide) rfl ?_;exact rg_step (may0 hs) (rg_step (may_num (w:=4) (lo:=1) (hi:=4094) rfl hv.1 hv.2) (rg_step (may7 hm) (rg_step (may0 hp) (show rgRun [] _=some _ from rfl))))
 · obtain ⟨s,a,rfl,hs,ha⟩:=h
   refine rgB_of (ps:=[(0,0),(8,10)]) rfl (by decide) rfl ?_;exact rg_step (may0 hs) (rg_step (may8 ha.1) (show rgRun [] _=some _ from rfl))
 · obtain ⟨s,v,a,rfl,hs,hv,ha⟩:=h
   refine rgB_of (ps:=[(0,0),(4,7),(6,6)]) rfl (by decide) rfl ?_;exact rg_step (may0 hs) (rg_step (may_num (w:=4) (lo:=1) (hi:=4094) rfl hv.1 hv.2) (rg_step (may_num (w:=6) (lo:=1) (hi:=16777215) rfl ha.1 ha.2) (show rgRun [] _=some _ from rfl)))
 · obtain ⟨s,a,x,rfl,hs,ha,hx⟩:=h
   refine rgB_of (ps:=[(0,0),(6,6),(12,15)]) rfl (by decide) rfl ?_;exact rg_step (may0 hs) (rg_step (may_num (w:=6) (lo:=1) (hi:=16777215) rfl ha.1 ha.2) (rg_step (may12 hx.1 hx.2) (show rgRun [] _=some _ from rfl)))
 · obtain ⟨s,n,x,y,rfl,hs,hn,hx,hy⟩:=h
   refine rgB_of (ps:=[(0,0),(0,4),(11,13),(11,14)]) rfl (by decide) rfl ?_;exact rg_step (may0 hs) (rg_step (may0 hn) (rg_step (may11 hx) (rg_step (may11 hy) (show rgRun [] _=some _ from rfl))))
 · obtain ⟨s,v,n,a,b,rfl,hs,hv,hn,hab⟩:=h
   refine rgB_of (ps:=[(0,0),(4,7),(0,4),(9,11)]) rfl (by decide) rfl ?_;exact rg_step (may0 hs) (rg_step (may_num (w:=4) (lo:=1) (hi:=4094) rfl hv.1 hv.2) (rg_step (may0 hn) (rg_step (may9 hab.1) (show rgRun [] _=some _ from rfl))))
end Go.Proofs.YtgmflecelnefcaaGreat
