import Derived.Test.YtgfinhehgfbdgaaGreatDoorKa34
import Derived.Test.YtgfinhehgfbdgaaGreatDoorKa06
import Derived.Test.YtgfinhehgfbdgaaGreatDoorKa18
import Derived.Test.YtgfinhehgfbdgaaGreatDoorKa32
import Derived.Test.YtgfinhehgfbdgaaGreatDoorKa33
import Derived.Test.YtgfinhehgfbdgaaGreatDoorKa24
import Derived.Test.YtgfinhehgfbdgaaGreatDoorKa09
import Derived.Test.YtgfinhehgfbdgaaGreatDoorKa02
import Derived.Deep.RegionWith
namespace Go.Proofs.YtgfinhehgfbdgaaGreatDoor
open Go.RowKit
def packL (b:List UInt8):List UInt8 :=
  if (sqL b).length < b.length then 1 :: (putL b.length ++ sqL b) else 0 :: (putL b.length ++ b)
def frmL (b:List UInt8):List UInt8:=sealL (80 :: 84 :: 3 :: packL b)
def unpF (i:List UInt8):List UInt8×Nat :=
  if 1 < (i.getD 0 0).toNat then ([],3) else
  match intL (i.drop 1) 20000 with
  | (n,k,e)=>if e≠0 then ([],e) else
    if (i.getD 0 0).toNat=1 then
      if (readF ((i.drop 1).drop k)).1.1≠0 then ([],(readF ((i.drop 1).drop k)).1.1)
      else if (swellF ((i.drop 1).drop k)).length≠n then ([],2) else (swellF ((i.drop 1).drop k),0)
    else if ((i.drop 1).drop k).length≠n then ([],2) else ((i.drop 1).drop k,0)
section
variable {i:List UInt8} {n k e:Nat}
theorem unp_form (h:1 < (i.getD 0 0).toNat):unpF i=([],3):=by unfold unpF;rw [if_pos h]
theorem unp_int (h:¬ 1 < (i.getD 0 0).toNat) (h1:intL (i.drop 1) 20000=(n,k,e)) (he:e≠0):unpF i=([],e):=by
  unfold unpF;rw [if_neg h,h1];simp only;rw [if_pos he]
theorem unp_swell (h:(i.getD 0 0).toNat=1) (h1:intL (i.drop 1) 20000=(n,k,0)) (h2:(readF ((i.drop 1).drop k)).1.1=e) (he:e≠0):unpF i=([],e):=by
  unfold unpF;rw [if_neg (by omega),h1];simp only;rw [if_neg (by simp),if_pos h,if_pos (by rw [h2];exact he),h2]
theorem unp_range1 (h:(i.getD 0 0).toNat=1) (h1:intL (i.drop 1) 20000=(n,k,0)) (h2:(readF ((i.drop 1).drop k)).1.1=0) (h3:(swellF ((i.drop 1).drop k)).length≠n):unpF i=([],2):=by
  unfold unpF;rw [if_neg (by omega),h1];simp only;rw [if_neg (by simp),if_pos h,if_neg (by rw [h2];simp),if_pos h3]
theorem unp_ok1 (h:(i.getD 0 0).toNat=1) (h1:intL (i.drop 1) 20000=(n,k,0)) (h2:(readF ((i.drop 1).drop k)).1.1=0) (h3:(swellF ((i.drop 1).drop k)).length=n):unpF i=(swellF ((i.drop 1).drop k),0):=by
  unfold unpF;rw [if_neg (by omega),h1];simp only;rw [if_neg (by simp),if_pos h,if_neg (by rw [h2];simp),if_neg (by rw [h3];simp)]
theorem unp_range0 (h:(i.getD 0 0).toNat=0) (h1:intL (i.drop 1) 20000=(n,k,0)) (h3:((i.drop 1).drop k).length≠n):unpF i=([],2):=by
  unfold unpF;rw [if_neg (by omega),h1];simp only;rw [if_neg (by simp),if_neg (by omega),if_pos h3]
theorem unp_ok0 (h:(i.getD 0 0).toNat=0) (h1:intL (i.drop 1) 20000=(n,k,0)) (h3:((i.drop 1).drop k).length=n):unpF i=((i.drop 1).drop k,0):=by
  unfold unpF;rw [if_neg (by omega),h1];simp only;rw [if_neg (by simp),if_neg (by omega),if_neg (by rw [h3];simp)]
end
theorem unp_few {i b:List UInt8} (h:unpF i=(b,0)):b.length≤20000:=by
  have hint:∀ n k,intL (i.drop 1) 20000=(n,k,0)→n≤20000:=by
    intro n k h1
    unfold intL at h1
    split at h1
    · rename_i h2;injection h1 with _ h1;injection h1 with _ h1;exact absurd h1 h2
    · split at h1
      · injection h1 with _ h1;injection h1 with _ h1;cases h1
      · rename_i h2;rw [h1] at h2;simp only at h2;omega
  unfold unpF at h
  split at h
  · injection h with _ h;cases h
  · rcases hi:intL (i.drop 1) 20000 with ⟨n,k,e⟩
    rw [hi] at h
    simp only at h
    split at h
    · rename_i he;injection h with _ h;exact absurd h he
    · rename_i he
      have he0:e=0:=by simpa using he
      subst he0
      have:=hint n k hi
      split at h
      · split at h
        · rename_i h2;injection h with _ h;exact absurd h h2
        · split at h
          · injection h with _ h;cases h
          · rename_i h3;injection h with h _;rw [←h];omega
      · split at h
        · injection h with _ h;cases h
        · rename_i h3;injection h with h _;rw [←h];omega
theorem packL_len (b:List UInt8):(packL b).length=1 + (putL b.length).length + min (sqL b).length b.length:=by
  unfold packL
  by_cases h:(sqL b).length < b.length
  · rw [if_pos h,List.length_cons,List.length_append];omega
  · rw [if_neg h,List.length_cons,List.length_append];omega
theorem frm_len (b:List UInt8):(frmL b).length=8 + (putL b.length).length + min (sqL b).length b.length:=by
  unfold frmL
  rw [sealL_len,List.length_cons,List.length_cons,List.length_cons,packL_len];omega
theorem intL_len (b more:List UInt8) (h:b.length≤20000):intL (putL b.length ++ more) 20000=(b.length,(putL b.length).length,0) :=
  intL_ok (getL_put b.length more (by omega)) (by omega)
theorem unp_whole (b:List UInt8) (h:b.length≤20000):unpF (0 :: (putL b.length ++ b))=(b,0):=by
  have h1:=unp_ok0 (i:=0 :: (putL b.length ++ b)) rfl (intL_len b b h) (by rw [List.drop_one,List.tail_cons,List.drop_left])
  rw [h1,List.drop_one,List.tail_cons,List.drop_left]
theorem unp_short (b:List UInt8) (h:b.length≤20000):unpF (1 :: (putL b.length ++ sqL b))=(b,0):=by
  obtain ⟨k1,k2⟩:=swell_sq b h
  have hd:((1 :: (putL b.length ++ sqL b)).drop 1).drop (putL b.length).length=sqL b:=by rw [List.drop_one,List.tail_cons,List.drop_left]
  have h1:=unp_ok1 (i:=1 :: (putL b.length ++ sqL b)) rfl (intL_len b (sqL b) h) (by rw [hd,k2]) (by rw [hd,k1])
  rw [h1,hd,k1]
theorem unp_pack (b:List UInt8) (h:b.length≤20000):unpF (packL b)=(b,0):=by
  unfold packL
  by_cases hc:(sqL b).length < b.length
  · rw [if_pos hc];exact unp_short b h
  · rw [if_neg hc];exact unp_whole b h
theorem opn_frm (b:List UInt8):opnF (frmL b)=(3,packL b,0):=by
  unfold frmL
  rw [opn_seal 3 (packL b) (by rw [packL_len];omega),if_neg (by decide)];rfl
def othL (b:List UInt8):List UInt8:=if (sqL b).length < b.length then 0 :: (putL b.length ++ b) else 1 :: (putL b.length ++ sqL b)
theorem oth_ne (b:List UInt8):sealL (80 :: 84 :: 3 :: othL b)≠frmL b:=by
  intro h
  have h1:=congrArg (fun l=>l.getD 3 0) h
  unfold frmL othL packL sealL at h1
  by_cases hc:(sqL b).length < b.length
  · rw [if_pos hc,if_pos hc] at h1;exact absurd (show (0:UInt8)=1 from h1) (by decide)
  · rw [if_neg hc,if_neg hc] at h1;exact absurd (show (1:UInt8)=0 from h1) (by decide)
theorem putL_size {n:Nat} (h:n≤20000):(putL n).length=1 + (if 128≤n then 1 else 0) + (if 16384≤n then 1 else 0):=by
  rw [putL_sevens]
  by_cases h1:n < 128
  · rw [sevens_small h1,if_neg (by omega),if_neg (by omega)]
  · rw [sevens_big h1,if_pos (by omega)]
    by_cases h2:n < 16384
    · rw [sevens_small (by omega),if_neg (by omega)]
    · rw [sevens_big (by omega),sevens_small (by omega),if_pos (by omega)]
end Go.Proofs.YtgfinhehgfbdgaaGreatDoor
namespace Go.Proofs.YtgfinhehgfbdgaaGreatDoor
open Go.RowKit
theorem lzsq_as (s T:ByteArray) (w:World) (hs:s.size≤20000) (hT:(⟨(sqL s.data.toList).toArray⟩:ByteArray)=T) :
   Calls Tryz.prog 28 #[.string s] w fun e w'=>e=.returned (.tuple #[.string T,.nilIface])∧Below w.heap.size w w':=by
 subst hT;exact lzsq_any s w hs
theorem lzswell_as (T s:ByteArray) (w:World) (hs:T.size≤400000) (hg:errT w) (h1:swellF T.data.toList=s.data.toList) (h2:(readF T.data.toList).1=(0,-1)) :
   Calls Tryz.prog 60 #[.string T] w fun e w'=>e=.returned (.tuple #[.string s,.nilIface])∧Below w.heap.size w w' :=
 (lzswell_any T w hs hg).mono fun e w' ⟨err,he,hat,hb⟩=>by
   obtain rfl:=hat.nil (by rw [h2])
   exact ⟨by rw [he,h1,bs_of],hb⟩
set_option maxRecDepth 100000 in
set_option maxHeartbeats 1000000 in
theorem squeezed_any (w:World) (hg:errT w):Calls Tryz.prog 25 #[] w fun e w'=>e=.returned (.bool true)∧Below w.heap.size w w':=by
 have HG:=Lib.hid hg
 clear hg
 go_enter Tryz.func25,Tryz.ntmps25
 go_wp2_with fail
 refine (lzsq_as ⟨#[97,98,99,97,98,99,97,98,99]⟩ ⟨#[6,97,98,99,5,2]⟩ _ (by decide) (by show (⟨(sqL abc9).toArray⟩:ByteArray)=_;rw [abc9_sq])).mono ?_
 rintro r w1 ⟨rfl,hb1⟩
 have HB1:=Lib.hid hb1
 have HG1:=Lib.hid (HG.out.below hb1)
 clear hb1
 go_wp2_with fail
 refine (lzswell_as ⟨#[6,97,98,99,5,2]⟩ ⟨#[97,98,99,97,98,99,97,98,99]⟩ _ (by decide) HG1.out (by show swellF [6,97,98,99,5,2]=abc9;rw [←abc9_sq];exact (swell_sq abc9 (by decide)).1) (by show (readF [6,97,98,99,5,2]).1=_;rw [←abc9_sq];exact (swell_sq abc9 (by decide)).2)).mono ?_
 rintro r w2 ⟨rfl,hb2⟩
 have HB2:Hid (Below w.heap.size w w2):=HB1.out.trans (hb2.mono HB1.out.size)
 clear hb2
 go_wp2
 go_ret
 exact ⟨rfl,HB2.out⟩
end Go.Proofs.YtgfinhehgfbdgaaGreatDoor
namespace Go.Proofs.YtgfinhehgfbdgaaGreatDoor
open Go.RowKit
def frmF (f h:List Ent) (l:List Wr):List UInt8×Nat×Int :=
  if (bodyF f h l).2.1≠0 then ([],(bodyF f h l).2) else (frmL (bodyF f h l).1,0,-1)
def unfF (s:List UInt8):(Nat×Int) ⊕ (List Ent×List Ent×List Wr) :=
  match opnF s with
  | (v,i,e)=>if e≠0 then .inl (e,-1) else if v≠3 then .inl (6,-1) else
    match unpF i with
    | (b,e)=>if e≠0 then .inl (e,-1) else
      match unbF b with
      | .inl r=>.inl r
      | .inr (f,h,l)=>if frmL b≠s then .inl (13,-1) else .inr (f,h,l)
section
variable {s i b:List UInt8} {v e x:Nat} {pl:Int} {f h:List Ent} {l:List Wr}
theorem unf_open (h0:opnF s=(v,i,e)) (he:e≠0):unfF s=.inl (e,-1):=by unfold unfF;rw [h0];simp only;rw [if_pos he]
theorem unf_state (h0:opnF s=(v,i,0)) (hv:v≠3):unfF s=.inl (6,-1):=by unfold unfF;rw [h0];simp only;rw [if_neg (by simp),if_pos hv]
theorem unf_pack (h0:opnF s=(3,i,0)) (h1:unpF i=(b,e)) (he:e≠0):unfF s=.inl (e,-1):=by
  unfold unfF;rw [h0];simp only;rw [if_neg (by simp),if_neg (by simp),h1];simp only;rw [if_pos he]
theorem unf_body (h0:opnF s=(3,i,0)) (h1:unpF i=(b,0)) (h2:unbF b=.inl (x,pl)):unfF s=.inl (x,pl):=by
  unfold unfF;rw [h0];simp only;rw [if_neg (by simp),if_neg (by simp),h1];simp only;rw [if_neg (by simp),h2]
theorem unf_false (h0:opnF s=(3,i,0)) (h1:unpF i=(b,0)) (h2:unbF b=.inr (f,h,l)) (h3:frmL b≠s):unfF s=.inl (13,-1):=by
  unfold unfF;rw [h0];simp only;rw [if_neg (by simp),if_neg (by simp),h1];simp only;rw [if_neg (by simp),h2];simp only;rw [if_pos h3]
theorem unf_ok (h0:opnF s=(3,i,0)) (h1:unpF i=(b,0)) (h2:unbF b=.inr (f,h,l)) (h3:frmL b=s):unfF s=.inr (f,h,l):=by
  unfold unfF;rw [h0];simp only;rw [if_neg (by simp),if_neg (by simp),h1];simp only;rw [if_neg (by simp),h2];simp only;rw [if_neg (by simpa using h3)]
end
theorem frm_of {b:List UInt8} {f h:List Ent} {l:List Wr} (hu:unbF b=.inr (f,h,l)):frmF f h l=(frmL b,0,-1)∧rightB f h l∧bodyL f h l=b∧b.length≤20000:=by
  obtain ⟨h1,h2,h3⟩:=unb_only hu
  have h4:bodyF f h l=(b,0,-1):=by rw [bodyF_ok h1 (by rw [h2];omega),h2]
  refine ⟨?_,h1,h2,h3⟩
  unfold frmF;rw [h4];rw [if_neg (by simp)]
theorem unf_only {s:List UInt8} {f h:List Ent} {l:List Wr} (hu:unfF s=.inr (f,h,l)):frmF f h l=(s,0,-1)∧rightB f h l∧(bodyL f h l).length≤20000∧s=frmL (bodyL f h l):=by
  rcases ho:opnF s with ⟨v,i,e⟩
  by_cases he:e=0
  · subst he
    by_cases hv:v=3
    · subst hv
      rcases hp:unpF i with ⟨b,e⟩
      by_cases he:e=0
      · subst he
        rcases hb:unbF b with ⟨x,pl⟩ | ⟨f',h',l'⟩
        · rw [unf_body ho hp hb] at hu;cases hu
        · by_cases hs:frmL b=s
          · rw [unf_ok ho hp hb hs] at hu
            injection hu with hu
            injection hu with e1 hu
            injection hu with e2 e3
            subst e1 e2 e3
            obtain ⟨k1,k2,k3,k4⟩:=frm_of hb
            rw [hs] at k1
            exact ⟨k1,k2,by rw [k3];exact k4,by rw [k3,hs]⟩
          · rw [unf_false ho hp hb hs] at hu;cases hu
      · rw [unf_pack ho hp he] at hu;cases hu
    · rw [unf_state ho hv] at hu;cases hu
  · rw [unf_open ho he] at hu;cases hu
theorem unf_frm {f h:List Ent} {l:List Wr} (hr:rightB f h l) (hl:(bodyL f h l).length≤20000):unfF (frmL (bodyL f h l))=.inr (f,h,l):=by
  have h1:=unb_body hr [] (by simpa using hl)
  rw [List.append_nil,if_pos rfl] at h1
  exact unf_ok (opn_frm _) (unp_pack _ hl) h1 rfl
theorem unf_oth {f h:List Ent} {l:List Wr} (hr:rightB f h l) (hl:(bodyL f h l).length≤20000):unfF (sealL (80 :: 84 :: 3 :: othL (bodyL f h l)))=.inl (13,-1):=by
  have h1:=unb_body hr [] (by simpa using hl)
  rw [List.append_nil,if_pos rfl] at h1
  have h2:unpF (othL (bodyL f h l))=(bodyL f h l,0):=by
    unfold othL
    by_cases hc:(sqL (bodyL f h l)).length < (bodyL f h l).length
    · rw [if_pos hc];exact unp_whole _ hl
    · rw [if_neg hc];exact unp_short _ hl
  have h3:1≤(othL (bodyL f h l)).length:=by
    unfold othL
    by_cases hc:(sqL (bodyL f h l)).length < (bodyL f h l).length
    · rw [if_pos hc];simp
    · rw [if_neg hc];simp
  exact unf_false (by rw [opn_seal 3 _ h3,if_neg (by decide)];rfl) h2 h1 (fun hx=>oth_ne _ hx.symm)
theorem unf_cut {s:List UInt8} {k:Nat} {f h:List Ent} {l:List Wr} (hk:k < s.length) (hs:frmF f h l=(s,0,-1)) (hu:unfF (s.take k)=.inr (f,h,l)):False:=by
  obtain ⟨h1,_⟩:=unf_only hu
  rw [hs] at h1
  injection h1 with h1 _
  have:=congrArg List.length h1
  rw [List.length_take] at this
  omega
theorem frmF_bad {f h:List Ent} {l:List Wr} {s:List UInt8} {e:Nat} {pl:Int} (h0:bodyF f h l=(s,e,pl)) (he:e≠0):frmF f h l=([],e,pl):=by unfold frmF;rw [h0,if_pos he]
theorem frmF_ok {f h:List Ent} {l:List Wr} {s:List UInt8} {pl:Int} (h0:bodyF f h l=(s,0,pl)):frmF f h l=(frmL s,0,-1):=by unfold frmF;rw [h0,if_neg (by simp)]
end Go.Proofs.YtgfinhehgfbdgaaGreatDoor
namespace Go.Proofs.YtgfinhehgfbdgaaGreatDoor
open Go.RowKit
theorem lzsq_to (s T:ByteArray) (w:World) (hs:s.size≤20000) (hT:sqL s.data.toList=T.data.toList) :
    Calls Tryz.prog 28 #[.string s] w fun e w'=>e=.returned (.tuple #[.string T,.nilIface])∧Below w.heap.size w w':=by
  have h:=lzsq_any s w hs
  rw [hT,bs_of] at h
  exact h
theorem put_to (n:Nat) (N:ByteArray) (w:World) (h:n≤1000000) (hN:putL n=N.data.toList) :
    Calls Tryz.prog 68 #[.int .u64 (n:Int)] w fun e w'=>e=.returned (.string N)∧Below w.heap.size w w' :=
  put_as n n N w h rfl (by rw [hN,bs_of])
theorem byte_conv (K:Nat) (B:ByteArray) (hB:B=⟨#[UInt8.ofNat K]⟩) (hK:K≤255) (W:World) (b:Nat) (h:W.heap[b]? = some (.cells #[.int .u8 (K:Int)] 5 (0,0))) :
    (convert 56 9 (.slice (some ⟨b,0,none⟩) 1 1)).run Tryz.prog W=.ok (.string B) W:=by
  subst hB
  refine run_convert_bytes_back _ _ _ _ _ _ [UInt8.ofNat K] Tryz.underlying56 Tryz.underlying5 Tryz.underlying9 fun j hj=>?_
  obtain rfl:j=0:=by simp at hj;omega
  have hadd:(⟨b,0,none⟩:Addr).add 0=⟨b,0,none⟩:=rfl
  rw [hadd,cell_of_row _ _ _ _ _ _ h]
  simp
  omega
theorem byte_lit (K:Nat) (k:Int) (B:ByteArray) (hk:(K:Int)=k) (hB:B=⟨#[UInt8.ofNat K]⟩) (hK:K≤255) (W:World) (b:Nat) (h:W.heap[b]? = some (.cells #[.int .u8 k] 5 (0,0))) :
    (convert 56 9 (.slice (some ⟨b,0,none⟩) 1 1)).run Tryz.prog W=.ok (.string B) W:=by
  subst hk;exact byte_conv K B hB hK W b h
theorem undrewP {w w':World} (h:Below w.drew.heap.size w.drew w'):Below w.heap.size w w':=((Below.refl _ _).drew).trans h
theorem pack_parts (s P:ByteArray) (hs:s.size≤20000) (hP:packL s.data.toList=P.data.toList) :
    ∃ T N:ByteArray,sqL s.data.toList=T.data.toList∧putL s.size=N.data.toList∧N.size≤3 ∧
      ((T.size < s.size∧(⟨#[1]⟩:ByteArray) ++ N ++ T=P)∨(s.size≤T.size∧(⟨#[0]⟩:ByteArray) ++ N ++ s=P)):=by
  have hl:s.size=s.data.toList.length:=size_data s
  have hz:=putL_size (n:=s.size) hs
  have e1:sqL s.data.toList=(⟨(sqL s.data.toList).toArray⟩:ByteArray).data.toList:=by simp
  have e2:putL s.size=(⟨(putL s.size).toArray⟩:ByteArray).data.toList:=by simp
  generalize (⟨(sqL s.data.toList).toArray⟩:ByteArray)=T at e1
  generalize (⟨(putL s.size).toArray⟩:ByteArray)=N at e2
  have hT:T.size=(sqL s.data.toList).length:=by rw [e1,size_data]
  have hN:N.size=(putL s.size).length:=by rw [e2,size_data]
  refine ⟨T,N,e1,e2,by rw [hN,hz];split <;> split <;> omega,?_⟩
  unfold packL at hP
  rw [←hl] at hP
  by_cases hc:T.size < s.size
  · rw [if_pos (by rw [←hT];exact hc),e1,e2] at hP
    exact .inl ⟨hc,bytes_ext (by simp [←hP])⟩
  · rw [if_neg (by rw [←hT];exact hc),e2] at hP
    exact .inr ⟨by omega,bytes_ext (by simp [←hP])⟩
set_option maxRecDepth 100000 in
set_option maxHeartbeats 1200000 in
theorem pack_any (s P:ByteArray) (w:World) (hs:s.size≤20000) (hP:packL s.data.toList=P.data.toList) :
    Calls Tryz.prog 41 #[.string s] w fun e w'=>e=.returned (.string P)∧Below w.heap.size w w':=by
  obtain ⟨T,N,hT,hN,hN3,hc⟩:=pack_parts s P hs hP
  have HT:=Lib.hid hT
  have HN:=Lib.hid hN
  have HTZ:Hid (T.size≤220000):=Lib.hid (by rw [size_data,←hT];exact sq_len _ (by rw [←size_data];exact hs))
  clear hT hN hP
  rcases hc with ⟨hc,hp⟩ | ⟨hc,hp⟩
  · have HP:=Lib.hid hp
    have hi:(T.size:Int) < (s.size:Int):=by omega
    obtain ⟨B,hB⟩:∃ B:ByteArray,B=⟨#[1]⟩:=⟨_,rfl⟩
    rw [←hB] at HP
    have HBB:=Lib.hid hB
    clear hB hp hc
    go_enter Tryz.func41,Tryz.ntmps41
    go_wp2_with fail
    refine (lzsq_to s T _ hs HT.out).mono ?_
    rintro r w1 ⟨rfl,hb1⟩
    have HB1:=Lib.hid hb1
    clear hb1
    go_wp2
    have hu:IntKind.u64.wrap (s.size:Int)=(s.size:Int):=by rw [IntKind.wrap_u64];omega
    have HPT:=Lib.hid (fun w'=>put_to s.size N w' (by omega) HN.out)
    have ha1:¬ (9223372036854775807 < B.size + N.size):=by rw [HBB.out];show ¬ (9223372036854775807 < 1 + N.size);omega
    have ha2:¬ (9223372036854775807 < (B ++ N).size + T.size):=by rw [ByteArray.size_append,HBB.out];show ¬ (9223372036854775807 < 1 + N.size + T.size);have:=HTZ.out;omega
    have ha3:¬ (9223372036854775807 < B.size + N.size + T.size):=by rw [←ByteArray.size_append];exact ha2
    have hcA:=byte_lit 1 1 B rfl HBB.out (by omega) (w1.alloc (.cells #[.int .u8 1] 5)) w1.heap.size (heap_alloc_new w1 _)
    have hcD:=byte_lit 1 1 B rfl HBB.out (by omega) (w1.alloc (.cells #[.int .u8 1] 5)).drew w1.heap.size (heap_alloc_new w1 _)
    have HBA:Hid (Below w1.heap.size w1 (w1.alloc (.cells #[.int .u8 1] 5))):=Lib.hid ((Below.refl _ _).alloc (Nat.le_refl _) _)
    go_region_with (first
      | (go_at_call 68;((with_reducible refine (HPT.out w1.drew).mono ?_);rintro r w2 ⟨rfl,hb2⟩;have HB2:Hid (Below w1.heap.size w1 w2):=Lib.hid (undrewP hb2);have hcB:=byte_lit 1 1 B rfl HBB.out (by omega) (w2.alloc (.cells #[.int .u8 1] 5)) w2.heap.size (heap_alloc_new w2 _);clear hb2))
      | (go_at_call 68;((with_reducible refine (HPT.out (w1.alloc (.cells #[.int .u8 1] 5)).drew).mono ?_);rintro r w2 ⟨rfl,hb2⟩;have HB2:Hid (Below w1.heap.size w1 w2):=Lib.hid (HBA.out.trans ((undrewP hb2).mono (by simp)));have hcB:=byte_lit 1 1 B rfl HBB.out (by omega) w2 w1.heap.size (((undrewP hb2).block _ (by simp)).trans (heap_alloc_new w1 _));clear hb2)))
    all_goals
      clear hcA hcB hcD
      go_wp2
      go_ret
      first
        | exact ⟨by rw [←HP.out];rfl,HB1.out.trans (HB2.out.mono HB1.out.size)⟩
        | exact ⟨by rw [←HP.out];rfl,HB1.out.trans ((HB2.out.alloc HB2.out.size _).mono HB1.out.size)⟩
  · have HP:=Lib.hid hp
    have hi:(s.size:Int)≤(T.size:Int):=by omega
    obtain ⟨B,hB⟩:∃ B:ByteArray,B=⟨#[0]⟩:=⟨_,rfl⟩
    rw [←hB] at HP
    have HBB:=Lib.hid hB
    clear hB hp hc
    go_enter Tryz.func41,Tryz.ntmps41
    go_wp2_with fail
    refine (lzsq_to s T _ hs HT.out).mono ?_
    rintro r w1 ⟨rfl,hb1⟩
    have HB1:=Lib.hid hb1
    clear hb1
    go_wp2
    have hu:IntKind.u64.wrap (s.size:Int)=(s.size:Int):=by rw [IntKind.wrap_u64];omega
    have HPT:=Lib.hid (fun w'=>put_to s.size N w' (by omega) HN.out)
    have ha1:¬ (9223372036854775807 < B.size + N.size):=by rw [HBB.out];show ¬ (9223372036854775807 < 1 + N.size);omega
    have ha2:¬ (9223372036854775807 < (B ++ N).size + s.size):=by rw [ByteArray.size_append,HBB.out];show ¬ (9223372036854775807 < 1 + N.size + s.size);omega
    have ha3:¬ (9223372036854775807 < B.size + N.size + s.size):=by rw [←ByteArray.size_append];exact ha2
    have hcA:=byte_lit 0 0 B rfl HBB.out (by omega) (w1.alloc (.cells #[.int .u8 0] 5)) w1.heap.size (heap_alloc_new w1 _)
    have hcD:=byte_lit 0 0 B rfl HBB.out (by omega) (w1.alloc (.cells #[.int .u8 0] 5)).drew w1.heap.size (heap_alloc_new w1 _)
    have HBA:Hid (Below w1.heap.size w1 (w1.alloc (.cells #[.int .u8 0] 5))):=Lib.hid ((Below.refl _ _).alloc (Nat.le_refl _) _)
    go_region_with (first
      | (go_at_call 68;((with_reducible refine (HPT.out w1.drew).mono ?_);rintro r w2 ⟨rfl,hb2⟩;have HB2:Hid (Below w1.heap.size w1 w2):=Lib.hid (undrewP hb2);have hcB:=byte_lit 0 0 B rfl HBB.out (by omega) (w2.alloc (.cells #[.int .u8 0] 5)) w2.heap.size (heap_alloc_new w2 _);clear hb2))
      | (go_at_call 68;((with_reducible refine (HPT.out (w1.alloc (.cells #[.int .u8 0] 5)).drew).mono ?_);rintro r w2 ⟨rfl,hb2⟩;have HB2:Hid (Below w1.heap.size w1 w2):=Lib.hid (HBA.out.trans ((undrewP hb2).mono (by simp)));have hcB:=byte_lit 0 0 B rfl HBB.out (by omega) w2 w1.heap.size (((undrewP hb2).block _ (by simp)).trans (heap_alloc_new w1 _));clear hb2)))
    all_goals
      clear hcA hcB hcD
      go_wp2
      go_ret
      first
        | exact ⟨by rw [←HP.out];rfl,HB1.out.trans (HB2.out.mono HB1.out.size)⟩
        | exact ⟨by rw [←HP.out];rfl,HB1.out.trans ((HB2.out.alloc HB2.out.size _).mono HB1.out.size)⟩
end Go.Proofs.YtgfinhehgfbdgaaGreatDoor
