import Derived.Test.YtjkbmfpomgcblaaGreatDoorKr03
import Derived.Deep.LoopGhost
namespace Go.Proofs.YtjkbmfpomgcblaaGreatDoor
open Go.RowKit
def hasV (K:Int):Bool:=decide (K=1) || decide (K=4)
def hasN (K:Int):Bool:=decide (K=3) || decide (K=4)
def idOk (T R:Int):Bool:=decide (1≤T∧T≤1099511627776∧0≤R∧R≤200)
def fitsN (K N:Int):Bool:=if K=3 then decide (-1125899906842624≤N) && decide (N≤1125899906842624) else if K=4 then decide (0≤N) && decide (N≤1000) else true
def wriE (T R K:Int) (key val:ByteArray) (N:Int):Nat :=
 if K < 1∨4 < K then 1 else if idOk T R=false then 2 else if 40 < key.size∨300 < val.size then 4 else if (0 < val.size∧hasV K=false)∨(N≠0∧hasN K=false) then 3 else if fitsN K N=false then 2 else 0
theorem wriE_kind {T R K:Int} {key val:ByteArray} {N:Int} (h:K < 1∨4 < K):wriE T R K key val N=1:=if_pos h
theorem wriE_id {T R K:Int} {key val:ByteArray} {N:Int} (h:¬ (K < 1∨4 < K)) (h1:idOk T R=false):wriE T R K key val N=2:=by unfold wriE;rw [if_neg h,if_pos h1]
theorem wriE_size {T R K:Int} {key val:ByteArray} {N:Int} (h:¬ (K < 1∨4 < K)) (h1:idOk T R=true) (h2:40 < key.size∨300 < val.size):wriE T R K key val N=4:=by
 unfold wriE;rw [if_neg h,if_neg (by rw [h1];decide),if_pos h2]
theorem wriE_rest {T R K:Int} {key val:ByteArray} {N:Int} (h:¬ (K < 1∨4 < K)) (h1:idOk T R=true) (h2:¬ (40 < key.size∨300 < val.size)) :
   wriE T R K key val N=if ((decide (0 < val.size) && !hasV K) || (decide (N≠0) && !hasN K))=true then 3 else if fitsN K N=true then 0 else 2:=by
 unfold wriE
 rw [if_neg h,if_neg (by rw [h1];decide),if_neg h2]
 cases hasV K <;> cases hasN K <;> cases fitsN K N <;> simp
theorem empty_of {s:ByteArray} (h:¬ 0 < s.size):s=⟨#[]⟩:=by
 cases s with
 | mk d => have : d.size = 0 := by have h2 : ¬ 0 < d.size := h; omega
           rw [Array.eq_empty_of_size_eq_zero this]
theorem bne_empty {s:ByteArray} (h:0 < s.size):(s.toList != [])=true:=by
 rw [ByteArray.toList_eq,bne_iff_ne]
 intro e
 have:s.data.toList.length=0:=by rw [e];rfl
 have h2:s.data.toList.length=s.size:=Array.length_toList
 omega
theorem wriE_good {T R K:Int} {key val:ByteArray} {N:Int} (h:wriE T R K key val N=0) :
   ¬ (K < 1∨4 < K)∧idOk T R=true∧key.size≤40∧val.size≤300∧¬ ((0 < val.size∧hasV K=false)∨(N≠0∧hasN K=false))∧fitsN K N=true:=by
 unfold wriE at h
 split at h
 · simp at h
 · split at h
   · simp at h
   · split at h
     · simp at h
     · split at h
       · simp at h
       · split at h
         · simp at h
         · rename_i h1 h2 h3 h4 h5
           exact ⟨h1,by simpa using h2,by omega,by omega,h4,by simpa using h5⟩
end Go.Proofs.YtjkbmfpomgcblaaGreatDoor
namespace Go.Proofs.YtjkbmfpomgcblaaGreatDoor
open Go.RowKit
def numR (r:Nat×Nat×Nat):Value:=.tuple #[.int .u64 r.1,.int .i64 r.2.1,.int .i64 r.2.2]
theorem numR_ret {l:List UInt8} {n k e:Nat} {a b c:Int} (h:getL l=(n,k,e)) (ha:a=n) (hb:b=k) (hc:c=e) :
   Ending.returned (.tuple #[.int .u64 a,.int .i64 b,.int .i64 c])=.returned (numR (getL l)):=by
 rw [h,ha,hb,hc];rfl
theorem valL_drop_le (l:List UInt8):∀ j,valL (l.drop j)≤valL l:=by
 induction l with
 | nil=>intro j;simp
 | cons c r ih =>
   intro j
   cases j with
   | zero=>exact Nat.le_refl _
   | succ j=>rw [List.drop_succ_cons,valL];have:=ih j;omega
theorem valL_drop_step (s:ByteArray) (i j:Nat) (hi:i < s.size) (hj:j≤i) :
   valL ((s.data.toList.take (i + 1)).drop j)=s[j].toNat % 128 + 128 * valL ((s.data.toList.take (i + 1)).drop (j + 1)):=by
 have hl:j < (s.data.toList.take (i + 1)).length:=by rw [List.length_take,←size_data];omega
 rw [List.drop_eq_getElem_cons hl,valL]
 congr 2
 rw [List.getElem_take]
 rfl
set_option maxRecDepth 100000 in
set_option maxHeartbeats 1000000 in
theorem unvary_any (s:ByteArray) (w:World) (hs:s.size≤maxLen) :
   Calls Tryz.prog 129 #[.string s] w fun e w'=>e=.returned (numR (getL s.data.toList))∧w=w':=by
 unfold maxLen at hs
 go_enter Tryz.func129,Tryz.ntmps129
 go_wp2
 go_loop [5] (fun i=>∃ k:Nat,k≤s.size∧k≤9∧i=.int .i64 k∧scan 0 s.data.toList=scan k (s.data.toList.drop k)) (fun i=>s.size - (intOf i).toNat)
 case atStart=>exact ⟨0,Nat.zero_le _,Nat.zero_le _,rfl,rfl⟩
 case round =>
   obtain ⟨k,hk,hk9,rfl,hsc⟩:=hrel
   have HSC:=Lib.hid hsc
   clear hsc
   by_cases hlt:k < s.size
   · have hne:((k:Int) == (s.size:Int))=false:=by simp;omega
     have hd9:(((k:Int) == 9)=true∧Hid (k=9))∨(((k:Int) == 9)=false∧Hid (k≠9)):=by
       by_cases h:k=9
       · exact .inl ⟨by rw [h];rfl,h⟩
       · exact .inr ⟨by simp;omega,h⟩
     rcases hd9 with ⟨hb,H9⟩ | ⟨hb,H9⟩
     all_goals go_wp2
     all_goals first
       | (have h1 : 1 < (s[k].toNat : Int) := by assumption
          go_ret3
          exact ⟨numR_ret (getL_of_bad (by rw [HSC.out,scan_at s k hlt,if_pos ⟨H9.out,by omega⟩])) rfl rfl rfl,rfl⟩)
       | (have h1 : s[k].toNat = 0 := by assumption
          have h2:0 < k:=by first | assumption | (have:=H9.out;omega)
          go_ret3
          exact ⟨numR_ret (getL_of_bad (by rw [HSC.out,scan_at s k hlt,if_neg (by omega),if_pos ⟨h2,h1⟩])) rfl rfl rfl,rfl⟩)
       | (have h3 : 128 ≤ (s[k].toNat : Int) := by assumption
          have n9:k≠9:=by first | exact H9.out | omega
          go_round
          case rel=>exact ⟨k + 1,by omega,by omega,by go_num,by rw [HSC.out,scan_at s k hlt,if_neg (by intro h;exact n9 h.1),if_neg (by omega),if_neg (by omega)]⟩
          case measure=>simp [intOf];omega)
       | skip
     all_goals
       have HST:Hid (scan 0 s.data.toList=.inr (k + 1)):=by
         have h9:=H9.out
         show scan 0 s.data.toList=.inr (k + 1)
         rw [HSC.out,scan_at s k hlt,if_neg (by omega),if_neg (by omega),if_pos (by omega)]
       have HV:=Lib.hid (scan_lt HST.out).2.2.2
       clear HSC H9 hb hne
       go_loop [6,7] (fun n j=>∃ m:Nat,m≤k + 1∧j=.int .i64 ((m:Int) - 1)∧n=.int .u64 (valL ((s.data.toList.take (k + 1)).drop m))) (fun _ j=>(intOf j + 1).toNat)
       case atStart=>exact ⟨k + 1,Nat.le_refl _,by go_num,by rw [List.drop_eq_nil_of_le (by simp;omega)];rfl⟩
       case round =>
         obtain ⟨m,hm,rfl,rfl⟩:=hrel
         rcases m with _ | m
         · go_wp2
           go_ret3
           exact ⟨numR_ret (getL_of_ok HST.out) rfl rfl rfl,rfl⟩
         · have hm2:m < s.size:=by omega
           have hst:=valL_drop_step s k m hlt (by omega)
           have hle:=valL_drop_le (s.data.toList.take (k + 1)) m
           have hv:=HV.out
           have HST2:=Lib.hid hst
           have hbd:(valL ((s.data.toList.take (k + 1)).drop (m + 1)):Int) * 128 + (s[m].toNat:Int) % 128≤18446744073709551615:=by omega
           clear hst hle hv
           go_wp2
           go_round
           case rel=>exact ⟨m,by omega,rfl,by rw [HST2.out];go_num⟩
           case measure=>simp [intOf]
   · have hne:((k:Int) == (s.size:Int))=true:=by simp;omega
     go_wp2
     go_ret3
     exact ⟨numR_ret (getL_of_bad (by rw [HSC.out,List.drop_eq_nil_of_le (by rw [←size_data];omega),scan])) rfl rfl rfl,rfl⟩
end Go.Proofs.YtjkbmfpomgcblaaGreatDoor
namespace Go.Proofs.YtjkbmfpomgcblaaGreatDoor
open Go.RowKit
instance : DecidableEq Wr := fun a b => decidable_of_iff (a.time = b.time ∧ a.rep = b.rep ∧ a.kind = b.kind ∧ a.key = b.key ∧ a.value = b.value ∧ a.n = b.n) (by cases a; cases b; simp)
theorem wq_step {l m:List Wr} {k:Nat} (h:l.take k=m.take k) {t u:Wr} (hl:l[k]? = some t) (hm:m[k]? = some u) (e:t=u):l.take (k + 1)=m.take (k + 1):=by
 obtain ⟨h1,h2⟩:=List.getElem?_eq_some_iff.1 hl
 obtain ⟨h3,h4⟩:=List.getElem?_eq_some_iff.1 hm
 rw [List.take_succ_eq_append_getElem h1,List.take_succ_eq_append_getElem h3,h,h2,h4,e]
end Go.Proofs.YtjkbmfpomgcblaaGreatDoor
namespace Go.Proofs.YtjkbmfpomgcblaaGreatDoor
open Go.ChangeShapes Go.WideShapes Go.ChangeAt Go.RowKit
def BatIs (W:World) (vf vh vw:Value) (f h:List Ent) (l:List Wr):Prop :=
 IsEnts W vf f∧IsEnts W vh h∧IsWrs W vw l∧f.length≤9223372036854775807∧h.length≤9223372036854775807∧l.length≤9223372036854775807∧∀ t∈l,WrOk t
theorem BatIs.below {w w':World} {vf vh vw:Value} {f h:List Ent} {l:List Wr} (hx:BatIs w vf vh vw f h l) (hb:Below w.heap.size w w'):BatIs w' vf vh vw f h l :=
 ⟨hx.1.below hb,hx.2.1.below hb,hx.2.2.1.below hb,hx.2.2.2⟩
theorem BatIs.alloc {w:World} {vf vh vw:Value} {f h:List Ent} {l:List Wr} (hx:BatIs w vf vh vw f h l) (o:Obj):BatIs (w.alloc o) vf vh vw f h l :=
 hx.below ((Below.refl _ _).alloc (Nat.le_refl _) o)
end Go.Proofs.YtjkbmfpomgcblaaGreatDoor
