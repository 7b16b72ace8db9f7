import Derived.Test.YtgfinhehgfbdgaaGreatDoorRa32
import Derived.Deep.RegionWith
namespace Go.Proofs.YtgfinhehgfbdgaaGreatDoor
open Go.RowKit
def sqL (s:List UInt8):List UInt8:=writeL (toks s)
theorem sq_is (s:List UInt8) (h:s.length≤20000):writeF (toks s)=sqL s∧rightF (toks s) 0 0=(0,-1):=by
 have h1:=(toks_text s h).1;refine ⟨?_,h1⟩;unfold writeF;rw [if_pos (by rw [h1])];rfl
theorem toks_few (s:List UInt8) (h:s.length≤400000):(toks s).length≤9223372036854775807∧∀ t∈toks s,t.own.size≤140737488351232:=by
 have h1:=tks_len s s.length 0 0;refine ⟨by unfold toks;omega,fun t ht=>?_⟩;have:=tks_own s _ _ _ t ht;omega
set_option maxRecDepth 100000 in
set_option maxHeartbeats 1000000 in
theorem lzsq_any (s:ByteArray) (w:World) (hs:s.size≤20000) :
   Calls Tryz.prog 28 #[.string s] w fun e w'=>e=.returned (.tuple #[.string ⟨(sqL s.data.toList).toArray⟩,.nilIface])∧Below w.heap.size w w':=by
 have hl:s.data.toList.length≤20000:=by rw [←size_data];exact hs
 obtain ⟨f1,f2⟩:=toks_few s.data.toList (by omega);obtain ⟨g1,g2⟩:=sq_is s.data.toList hl;have F1:=Lib.hid f1;have F2:=Lib.hid f2;have G1:=Lib.hid g1;have G2:=Lib.hid g2;clear f1 f2 g1 g2 hl;go_enter Tryz.func28,Tryz.ntmps28
 go_wp2_with fail
 refine (tokens_any s _ (by omega)).mono ?_;rintro r w1 ⟨v,rfl,hown,hb1⟩;have HO:=Lib.hid hown;have HB1:=Lib.hid hb1;clear hown hb1;go_wp2_with fail
 refine (lzwrite_any v _ _ HO.out.is F1.out F2.out).mono ?_;rintro r w2 ⟨err,rfl,hat,hb2⟩;obtain rfl:err=.nilIface:=by
   rcases hat with ⟨_,h⟩ | ⟨h,_⟩
   · exact h
   · exact absurd (by rw [G2.out]) h
 rw [G1.out];have HB2:Hid (Below w.heap.size w w2):=HB1.out.trans (hb2.mono HB1.out.size);clear hat hb2;go_wp2;go_ret2;exact ⟨rfl,HB2.out⟩
set_option maxRecDepth 100000 in
set_option maxHeartbeats 1000000 in
theorem rsq_any (s:ByteArray) (w:World) (hs:s.size≤20000) :
   Calls Tryz.prog 38 #[.string s] w fun e w'=>e=.returned (.tuple #[.string ⟨(sqL s.data.toList).toArray⟩,.agg #[.int .i64 0,.int .i64 (-1)]])∧Below w.heap.size w w':=by
 have hl:s.data.toList.length≤20000:=by rw [←size_data];exact hs
 obtain ⟨f1,f2⟩:=toks_few s.data.toList (by omega);obtain ⟨g1,g2⟩:=sq_is s.data.toList hl;have HFV:Hid (faultV (rightF (toks s.data.toList) 0 0)=.agg #[.int .i64 0,.int .i64 (-1)]):=by
   have h:faultV (rightF (toks s.data.toList) 0 0)=.agg #[.int .i64 0,.int .i64 (-1)]:=by rw [g2];rfl
   exact h
 have F1:=Lib.hid f1;have F2:=Lib.hid f2;have G1:=Lib.hid g1;clear f1 f2 g1 g2 hl;go_enter Tryz.func38,Tryz.ntmps38
 go_wp2_with fail
 refine (rtokens_any s _ (by omega)).mono ?_;rintro r w1 ⟨v,rfl,hown,hb1⟩;have HO:=Lib.hid hown;have HB1:=Lib.hid hb1;clear hown hb1;go_wp2_with fail
 refine (rwrite_any v _ _ HO.out.is F1.out F2.out).mono ?_;rintro r w2 ⟨rfl,hb2⟩;rw [G1.out,HFV.out];have hl1:w.heap.size<w1.heap.size:=Nat.lt_of_lt_of_le (by simp) HB1.out.size;have hl2:w.heap.size<w2.heap.size:=Nat.lt_of_lt_of_le hl1 hb2.size;have x0:w2.cell? ⟨w.heap.size,0,none⟩=some (.int .i64 0):=(hb2.cell hl1).trans ((HB1.out.cell (by simp)).trans (by simp));have x1:w2.cell? ⟨w.heap.size,1,none⟩=some (.int .i64 0):=(hb2.cell hl1).trans ((HB1.out.cell (by simp)).trans (by simp));have y0:w2.frozen? ⟨w.heap.size,0,none⟩=false:=(hb2.frozen hl1).trans ((HB1.out.frozen (by simp)).trans (by simp));have y1:w2.frozen? ⟨w.heap.size,1,none⟩=false:=(hb2.frozen hl1).trans ((HB1.out.frozen (by simp)).trans (by simp));have HB2:Hid (Below w.heap.size w w2):=((Below.refl _ _).alloc (Nat.le_refl _) _).trans ((HB1.out.mono (by simp)).trans (hb2.mono (Nat.le_of_lt hl1)));clear hb2;go_wp2;refine bodyPost_ret (v:=.tuple #[.string ⟨(sqL s.data.toList).toArray⟩,.agg #[.int .i64 0,.int .i64 (-1)]]) (by simp [results,Tryz.results38,go_sem,x0,x1]) rfl ?_;exact ⟨rfl,(HB2.out.setCell (Nat.le_refl _) _).setCell (Nat.le_refl _) _⟩
end Go.Proofs.YtgfinhehgfbdgaaGreatDoor
namespace Go.Proofs.YtgfinhehgfbdgaaGreatDoor
open Go.RowKit
theorem rdF_err {s:List UInt8} {f a e p:Nat} {l:List Tok} {b:List Nat} (h:rdF s f a l b=.inl (e,p)):e≠0:=by
 induction f generalizing a l b with
 | zero=>cases h
 | succ f ih =>
   by_cases hlt:a<s.length
   · match hg:getT (s.drop a) with
     | .inl (e',p') =>
       rw [rdF_bad hlt hg] at h;injection h with h
       injection h with h1 h2
       subst h1;exact getT_err hg
     | .inr (t,k)=>rw [rdF_ok hlt hg] at h;exact ih h
   · rw [rdF_end hlt] at h;cases h
def swellF (s:List UInt8):List UInt8:=if (readF s).1.1=0 then textL [] (readF s).2 else []
theorem swell_ok {s:List UInt8} (h:(readF s).1.1=0):swellF s=textL [] (readF s).2:=by unfold swellF;rw [if_pos h]
theorem swell_bad {s:List UInt8} (h:¬ (readF s).1.1=0):swellF s=[]:=by unfold swellF;rw [if_neg h]
theorem read_good {s:List UInt8} (h:(readF s).1.1=0):(readF s).1=(0,-1):=by
 match hr:rdF s s.length 0 [] [] with
 | .inl (e,p) =>
   rw [readF_bad hr] at h;exact absurd h (rdF_err hr)
 | .inr (l,b) =>
   by_cases hw:(rightF l 0 0).1=0
   · rw [readF_ok hr hw]
   · rw [readF_wrong hr hw] at h;exact absurd h hw
def SwellIs (w:World) (s:List UInt8) (e:Ending) (w':World):Prop :=
 ∃ err,e=.returned (.tuple #[.string ⟨(swellF s).toArray⟩,err])∧atIs w' err (readF s).1∧Below w.heap.size w w'
set_option maxRecDepth 100000 in
set_option maxHeartbeats 2000000 in
theorem lzswell_any (s:ByteArray) (w:World) (hs:s.size≤400000) (hg:errT w) :
   Calls Tryz.prog 60 #[.string s] w (SwellIs w s.data.toList):=by
 have HG:=Lib.hid hg;clear hg;by_cases hr:(readF s.data.toList).1.1=0
 · have HS:=Lib.hid (swell_ok hr);have hr2:=(read_only hr).1;obtain ⟨f1,_,_⟩:=right_few hr2;have HF1:Hid ((readF s.data.toList).2.length≤9223372036854775807):=Lib.hid (show (readF s.data.toList).2.length≤9223372036854775807 by omega);have HF2:Hid (∀ t∈(readF s.data.toList).2,t.own.size≤140737488351232):=Lib.hid (show ∀ t∈(readF s.data.toList).2,t.own.size≤140737488351232 from fun t ht=>by have:=right_own hr2 t ht;omega);have HR0:=Lib.hid hr;have HRG:=Lib.hid (read_good hr);have HR2:=Lib.hid hr2;have HT:Hid (textF (readF s.data.toList).2=textL [] (readF s.data.toList).2):=Lib.hid (show textF (readF s.data.toList).2=textL [] (readF s.data.toList).2 by unfold textF;rw [if_pos hr2]);clear hr hr2 f1;go_enter Tryz.func60,Tryz.ntmps60
   go_wp2_with fail
   refine (lzread_any s _ hs HG.out).mono ?_;rintro r w1 ⟨v,err,rfl,hok,hat,hb1⟩;obtain rfl:=hat.nil HR0.out;have HK:=Lib.hid hok;have HB1:=Lib.hid hb1;clear hok hat hb1;go_wp2_with fail
   refine (text_any v _ _ HK.out.is HF1.out HF2.out).mono ?_;rintro r w2 ⟨err,rfl,hat,hb2⟩;obtain rfl:=hat.nil HR2.out;have HB2:Hid (Below w.heap.size w w2):=HB1.out.trans (hb2.mono HB1.out.size);clear hat hb2;go_wp2;go_ret2;refine ⟨.nilIface,?_,.inl ⟨HRG.out,rfl⟩,HB2.out⟩;rw [HS.out,HT.out];rfl
 · have HS:=Lib.hid (swell_bad hr);have HR0:=Lib.hid hr;clear hr;go_enter Tryz.func60,Tryz.ntmps60
   go_wp2_with fail
   refine (lzread_any s _ hs HG.out).mono ?_;rintro r w1 ⟨v,err,rfl,hok,hat,hb1⟩;obtain ⟨ty,u,rfl⟩:=hat.iface HR0.out;have HAT:=Lib.hid hat;have HB1:=Lib.hid hb1;clear hok hat hb1;go_wp2;go_ret2;exact ⟨_,by rw [HS.out];rfl,HAT.out,HB1.out⟩
theorem sq_len (s:List UInt8) (h:s.length≤20000):(sqL s).length≤220000:=(right_few (l:=toks s) (by rw [(toks_text s h).1])).2.1
end Go.Proofs.YtgfinhehgfbdgaaGreatDoor
namespace Go.Proofs.YtgfinhehgfbdgaaGreatDoor
open Go.RowKit
set_option maxRecDepth 100000 in
set_option maxHeartbeats 1200000 in
theorem rversion_as (s I:ByteArray) (v e:Nat) (w:World) (hs:s.size≤1000000) (h:opnF s.data.toList=(v,I.data.toList,e)) :
   Calls Tryz.prog 16 #[.string s] w fun r w'=>r=.returned (.tuple #[.int .i64 (v:Int),.int .i64 (e:Int)])∧Below w.heap.size w w':=by
 have hl:s.size=s.data.toList.length:=size_data s;by_cases h8:s.size<8
 · rw [opn_few (by rw [←hl];exact h8)] at h;injection h with h1 h
   injection h with hI h2
   clear hI;subst h1 h2;have h8i:(s.size:Int)<8:=by omega
   clear hl;go_enter Tryz.func16,Tryz.ntmps16
   go_wp2;go_ret2;exact ⟨rfl,Below.refl _ _⟩
 · have h8l:¬ s.data.toList.length<8:=by rw [←hl];exact h8
   have h8i:8≤(s.size:Int):=by omega
   by_cases hp:s.data.toList.take 2=[80,84]
   · have HPB:Hid (Lib.hasPrefix s.data.toList [80,84]=true):=Lib.hid ((pre_two _).2 hp);have hsz:2<s.size:=by omega
     obtain ⟨c, hc⟩ : ∃ c : UInt8, s[2]'hsz = c := ⟨_, rfl⟩;have hwr:wrap64 (c.toNat:Int)=(c.toNat:Int):=IntWalk.wrap64_in _ (by have:=c.toNat_lt;omega);have hcd:s.data.toList.getD 2 0=c:=by
       rw [List.getD_eq_getElem?_getD,List.getElem?_eq_getElem (by omega),Option.getD_some,←hc];rfl
     by_cases hv:c.toNat<1∨3<c.toNat
     · rw [opn_none h8l hp (by rw [hcd];exact hv)] at h;injection h with h1 h
       injection h with hI h2
       clear hI;subst h1 h2;have hvs:((c.toNat:Int)<1)∨(1≤(c.toNat:Int)∧3<(c.toNat:Int)):=by omega
       clear hl hp hcd;go_enter Tryz.func16,Tryz.ntmps16
       go_wp2_with fail
       refine (Tryz.strings_HasPrefix s _ w).mono ?_;rintro r w1 ⟨rfl,rfl⟩;rw [HPB.out];rcases hvs with h1 | ⟨h1,h2⟩
       · go_wp2_with (go_at_call 52;refine (within_low _ _ _ _ h1).mono ?_;rintro r w2 ⟨rfl,rfl⟩)
         go_ret2;exact ⟨rfl,Below.refl _ _⟩
       · go_wp2_with (go_at_call 52;refine (within_high _ _ _ _ h1 h2).mono ?_;rintro r w2 ⟨rfl,rfl⟩)
         go_ret2;exact ⟨rfl,Below.refl _ _⟩
     · have hv1:1≤(c.toNat:Int):=by omega
       have hv2:(c.toNat:Int)≤3:=by omega
       obtain ⟨o,x,hop⟩:∃ o x,openL s.data.toList=(o,x):=⟨_,_,rfl⟩;have HO:Hid (openR (openL s.data.toList)=.tuple #[.string ⟨o.toArray⟩,.int .i64 (x:Int)]):=Lib.hid (by show openR _=_;rw [hop];rfl);by_cases hx:x=0
       · subst hx;rw [opn_ok h8l hp (by rw [hcd];exact hv) (by rw [hop]),hcd] at h;injection h with h1 h
         injection h with hI h2
         clear hI;subst h1 h2;clear hl hp hcd hop;go_enter Tryz.func16,Tryz.ntmps16
         go_wp2_with fail
         refine (Tryz.strings_HasPrefix s _ w).mono ?_;rintro r w1 ⟨rfl,rfl⟩;rw [HPB.out];go_wp2_with (go_at_call 52;refine (within_yes _ _ _ _ hv1 hv2).mono ?_;rintro r w2 ⟨rfl,rfl⟩)
         refine (refopen_any s _ hs).mono ?_;rintro r w2 ⟨rfl,hb2⟩;rw [HO.out];have HB2:=Lib.hid hb2;clear hb2;go_wp2;go_ret2;exact ⟨rfl,HB2.out⟩
       · rw [opn_spoilt h8l hp (by rw [hcd];exact hv) (by rw [hop]) hx] at h;injection h with h1 h
         injection h with hI h2
         clear hI;subst h1 h2;have hxi:((x:Int) == 0)=false:=by simp;omega
         clear hl hp hcd hop;go_enter Tryz.func16,Tryz.ntmps16
         go_wp2_with fail
         refine (Tryz.strings_HasPrefix s _ w).mono ?_;rintro r w1 ⟨rfl,rfl⟩;rw [HPB.out];go_wp2_with (go_at_call 52;refine (within_yes _ _ _ _ hv1 hv2).mono ?_;rintro r w2 ⟨rfl,rfl⟩)
         refine (refopen_any s _ hs).mono ?_;rintro r w2 ⟨rfl,hb2⟩;rw [HO.out];have HB2:=Lib.hid hb2;clear hb2;go_wp2;go_ret2;exact ⟨rfl,HB2.out⟩
   · have HPB:Hid (Lib.hasPrefix s.data.toList [80,84]=false):=Lib.hid (pre_not hp);rw [opn_name h8l hp] at h;injection h with h1 h
     injection h with hI h2
     clear hI;subst h1 h2;clear hl hp;go_enter Tryz.func16,Tryz.ntmps16
     go_wp2_with fail
     refine (Tryz.strings_HasPrefix s _ w).mono ?_;rintro r w1 ⟨rfl,rfl⟩;rw [HPB.out];go_wp2;go_ret2;exact ⟨rfl,Below.refl _ _⟩
theorem rsq_to (s T:ByteArray) (w:World) (hs:s.size≤20000) (hT:sqL s.data.toList=T.data.toList) :
   Calls Tryz.prog 38 #[.string s] w fun e w'=>e=.returned (.tuple #[.string T,.agg #[.int .i64 0,.int .i64 (-1)]])∧Below w.heap.size w w':=by
 have h:=rsq_any s w hs;rw [hT,bs_of] at h;exact h
theorem rseal_to (s T:ByteArray) (w:World) (hs:s.size≤1000000) (hT:sealL s.data.toList=T.data.toList) :
   Calls Tryz.prog 40 #[.string s] w fun e w'=>e=.returned (.string T)∧Below w.heap.size w w':=by
 have h:=refseal_any s w hs;rw [show sealB s=T from bytes_ext (by rw [sealB_data,hT])] at h;exact h
end Go.Proofs.YtgfinhehgfbdgaaGreatDoor
namespace Go.Proofs.YtgfinhehgfbdgaaGreatDoor
open Go.RowKit
def packL (b:List UInt8):List UInt8 :=
 if (sqL b).length<b.length then 1::(putL b.length++sqL b) else 0::(putL b.length++b)
def frmL (b:List UInt8):List UInt8:=sealL (80::84::3::packL b)
def unpF (i:List UInt8):List UInt8×Nat :=
 if 1<(i.getD 0 0).toNat then ([],3) else
 match intL (i.drop 1) 20000 with
 | (n,k,e)=>if e≠0 then ([],e) else
   if (i.getD 0 0).toNat=1 then
     if (readF ((i.drop 1).drop k)).1.1≠0 then ([],(readF ((i.drop 1).drop k)).1.1)
     else if (swellF ((i.drop 1).drop k)).length≠n then ([],2) else (swellF ((i.drop 1).drop k),0)
   else if ((i.drop 1).drop k).length≠n then ([],2) else ((i.drop 1).drop k,0)
section
variable {i:List UInt8} {n k e:Nat}
theorem unp_form (h:1<(i.getD 0 0).toNat):unpF i=([],3):=by unfold unpF;rw [if_pos h]
theorem unp_int (h:¬ 1<(i.getD 0 0).toNat) (h1:intL (i.drop 1) 20000=(n,k,e)) (he:e≠0):unpF i=([],e):=by
 unfold unpF;rw [if_neg h,h1];simp only;rw [if_pos he]
theorem unp_swell (h:(i.getD 0 0).toNat=1) (h1:intL (i.drop 1) 20000=(n,k,0)) (h2:(readF ((i.drop 1).drop k)).1.1=e) (he:e≠0):unpF i=([],e):=by
 unfold unpF;rw [if_neg (by omega),h1];simp only;rw [if_neg (by simp),if_pos h,if_pos (by rw [h2];exact he),h2]
theorem unp_range1 (h:(i.getD 0 0).toNat=1) (h1:intL (i.drop 1) 20000=(n,k,0)) (h2:(readF ((i.drop 1).drop k)).1.1=0) (h3:(swellF ((i.drop 1).drop k)).length≠n):unpF i=([],2):=by
 unfold unpF;rw [if_neg (by omega),h1];simp only;rw [if_neg (by simp),if_pos h,if_neg (by rw [h2];simp),if_pos h3]
theorem unp_ok1 (h:(i.getD 0 0).toNat=1) (h1:intL (i.drop 1) 20000=(n,k,0)) (h2:(readF ((i.drop 1).drop k)).1.1=0) (h3:(swellF ((i.drop 1).drop k)).length=n):unpF i=(swellF ((i.drop 1).drop k),0):=by
 unfold unpF;rw [if_neg (by omega),h1];simp only;rw [if_neg (by simp),if_pos h,if_neg (by rw [h2];simp),if_neg (by rw [h3];simp)]
theorem unp_range0 (h:(i.getD 0 0).toNat=0) (h1:intL (i.drop 1) 20000=(n,k,0)) (h3:((i.drop 1).drop k).length≠n):unpF i=([],2):=by
 unfold unpF;rw [if_neg (by omega),h1];simp only;rw [if_neg (by simp),if_neg (by omega),if_pos h3]
theorem unp_ok0 (h:(i.getD 0 0).toNat=0) (h1:intL (i.drop 1) 20000=(n,k,0)) (h3:((i.drop 1).drop k).length=n):unpF i=((i.drop 1).drop k,0):=by
 unfold unpF;rw [if_neg (by omega),h1];simp only;rw [if_neg (by simp),if_neg (by omega),if_neg (by rw [h3];simp)]
end
theorem unp_few {i b:List UInt8} (h:unpF i=(b,0)):b.length≤20000:=by
 have hint:∀ n k,intL (i.drop 1) 20000=(n,k,0)→n≤20000:=by
   intro n k h1;unfold intL at h1;split at h1
   · rename_i h2;injection h1 with _ h1;injection h1 with _ h1;exact absurd h1 h2
   · split at h1
     · injection h1 with _ h1;injection h1 with _ h1;cases h1
     · rename_i h2;rw [h1] at h2;simp only at h2;omega
 unfold unpF at h;split at h
 · injection h with _ h;cases h
 · rcases hi:intL (i.drop 1) 20000 with ⟨n,k,e⟩
   rw [hi] at h;simp only at h
   split at h
   · rename_i he;injection h with _ h;exact absurd h he
   · rename_i he;have he0:e=0:=by simpa using he
     subst he0;have:=hint n k hi;split at h
     · split at h
       · rename_i h2;injection h with _ h;exact absurd h h2
       · split at h
         · injection h with _ h;cases h
         · rename_i h3;injection h with h _;rw [←h];omega
     · split at h
       · injection h with _ h;cases h
       · rename_i h3;injection h with h _;rw [←h];omega
theorem packL_len (b:List UInt8):(packL b).length=1+(putL b.length).length+min (sqL b).length b.length:=by
 unfold packL;by_cases h:(sqL b).length<b.length
 · rw [if_pos h,List.length_cons,List.length_append];omega
 · rw [if_neg h,List.length_cons,List.length_append];omega
theorem putL_size {n:Nat} (h:n≤20000):(putL n).length=1+(if 128≤n then 1 else 0)+(if 16384≤n then 1 else 0):=by
 rw [putL_sevens];by_cases h1:n<128
 · rw [sevens_small h1,if_neg (by omega),if_neg (by omega)]
 · rw [sevens_big h1,if_pos (by omega)];by_cases h2:n<16384
   · rw [sevens_small (by omega),if_neg (by omega)]
   · rw [sevens_big (by omega),sevens_small (by omega),if_pos (by omega)]
end Go.Proofs.YtgfinhehgfbdgaaGreatDoor
namespace Go.Proofs.YtgfinhehgfbdgaaGreatDoor
open Go.RowKit
def frmF (f h:List Ent) (l:List Wr):List UInt8×Nat×Int :=
 if (bodyF f h l).2.1≠0 then ([],(bodyF f h l).2) else (frmL (bodyF f h l).1,0,-1)
def unfF (s:List UInt8):(Nat×Int) ⊕ (List Ent×List Ent×List Wr) :=
 match opnF s with
 | (v,i,e)=>if e≠0 then .inl (e,-1) else if v≠3 then .inl (6,-1) else
   match unpF i with
   | (b,e)=>if e≠0 then .inl (e,-1) else
     match unbF b with
     | .inl r=>.inl r
     | .inr (f,h,l)=>if frmL b≠s then .inl (13,-1) else .inr (f,h,l)
section
variable {s i b:List UInt8} {v e x:Nat} {pl:Int} {f h:List Ent} {l:List Wr}
theorem unf_open (h0:opnF s=(v,i,e)) (he:e≠0):unfF s=.inl (e,-1):=by unfold unfF;rw [h0];simp only;rw [if_pos he]
theorem unf_state (h0:opnF s=(v,i,0)) (hv:v≠3):unfF s=.inl (6,-1):=by unfold unfF;rw [h0];simp only;rw [if_neg (by simp),if_pos hv]
theorem unf_pack (h0:opnF s=(3,i,0)) (h1:unpF i=(b,e)) (he:e≠0):unfF s=.inl (e,-1):=by
 unfold unfF;rw [h0];simp only;rw [if_neg (by simp),if_neg (by simp),h1];simp only;rw [if_pos he]
theorem unf_body (h0:opnF s=(3,i,0)) (h1:unpF i=(b,0)) (h2:unbF b=.inl (x,pl)):unfF s=.inl (x,pl):=by
 unfold unfF;rw [h0];simp only;rw [if_neg (by simp),if_neg (by simp),h1];simp only;rw [if_neg (by simp),h2]
theorem unf_false (h0:opnF s=(3,i,0)) (h1:unpF i=(b,0)) (h2:unbF b=.inr (f,h,l)) (h3:frmL b≠s):unfF s=.inl (13,-1):=by
 unfold unfF;rw [h0];simp only;rw [if_neg (by simp),if_neg (by simp),h1];simp only;rw [if_neg (by simp),h2];simp only;rw [if_pos h3]
theorem unf_ok (h0:opnF s=(3,i,0)) (h1:unpF i=(b,0)) (h2:unbF b=.inr (f,h,l)) (h3:frmL b=s):unfF s=.inr (f,h,l):=by
 unfold unfF;rw [h0];simp only;rw [if_neg (by simp),if_neg (by simp),h1];simp only;rw [if_neg (by simp),h2];simp only;rw [if_neg (by simpa using h3)]
end
theorem frm_of {b:List UInt8} {f h:List Ent} {l:List Wr} (hu:unbF b=.inr (f,h,l)):frmF f h l=(frmL b,0,-1)∧rightB f h l∧bodyL f h l=b∧b.length≤20000:=by
 obtain ⟨h1,h2,h3⟩:=unb_only hu;have h4:bodyF f h l=(b,0,-1):=by rw [bodyF_ok h1 (by rw [h2];omega),h2]
 refine ⟨?_,h1,h2,h3⟩;unfold frmF;rw [h4];rw [if_neg (by simp)]
theorem frmF_bad {f h:List Ent} {l:List Wr} {s:List UInt8} {e:Nat} {pl:Int} (h0:bodyF f h l=(s,e,pl)) (he:e≠0):frmF f h l=([],e,pl):=by unfold frmF;rw [h0,if_pos he]
theorem frmF_ok {f h:List Ent} {l:List Wr} {s:List UInt8} {pl:Int} (h0:bodyF f h l=(s,0,pl)):frmF f h l=(frmL s,0,-1):=by unfold frmF;rw [h0,if_neg (by simp)]
end Go.Proofs.YtgfinhehgfbdgaaGreatDoor
namespace Go.Proofs.YtgfinhehgfbdgaaGreatDoor
open Go.RowKit
theorem lzsq_to (s T:ByteArray) (w:World) (hs:s.size≤20000) (hT:sqL s.data.toList=T.data.toList) :
   Calls Tryz.prog 28 #[.string s] w fun e w'=>e=.returned (.tuple #[.string T,.nilIface])∧Below w.heap.size w w':=by
 have h:=lzsq_any s w hs;rw [hT,bs_of] at h;exact h
theorem put_to (n:Nat) (N:ByteArray) (w:World) (h:n≤1000000) (hN:putL n=N.data.toList) :
   Calls Tryz.prog 68 #[.int .u64 (n:Int)] w fun e w'=>e=.returned (.string N)∧Below w.heap.size w w' :=
 put_as n n N w h rfl (by rw [hN,bs_of])
theorem byte_conv (K:Nat) (B:ByteArray) (hB:B=⟨#[UInt8.ofNat K]⟩) (hK:K≤255) (W:World) (b:Nat) (h:W.heap[b]? = some (.cells #[.int .u8 (K:Int)] 5 (0,0))) :
   (convert 56 9 (.slice (some ⟨b,0,none⟩) 1 1)).run Tryz.prog W=.ok (.string B) W:=by
 subst hB;refine run_convert_bytes_back _ _ _ _ _ _ [UInt8.ofNat K] Tryz.underlying56 Tryz.underlying5 Tryz.underlying9 fun j hj=>?_
 obtain rfl:j=0:=by simp at hj;omega
 have hadd:(⟨b,0,none⟩:Addr).add 0=⟨b,0,none⟩:=rfl;rw [hadd,cell_of_row _ _ _ _ _ _ h];simp
 omega
theorem byte_lit (K:Nat) (k:Int) (B:ByteArray) (hk:(K:Int)=k) (hB:B=⟨#[UInt8.ofNat K]⟩) (hK:K≤255) (W:World) (b:Nat) (h:W.heap[b]? = some (.cells #[.int .u8 k] 5 (0,0))) :
   (convert 56 9 (.slice (some ⟨b,0,none⟩) 1 1)).run Tryz.prog W=.ok (.string B) W:=by
 subst hk;exact byte_conv K B hB hK W b h
theorem undrewP {w w':World} (h:Below w.drew.heap.size w.drew w'):Below w.heap.size w w':=((Below.refl _ _).drew).trans h
theorem pack_parts (s P:ByteArray) (hs:s.size≤20000) (hP:packL s.data.toList=P.data.toList) :
   ∃ T N:ByteArray,sqL s.data.toList=T.data.toList∧putL s.size=N.data.toList∧N.size≤3 ∧
     ((T.size<s.size∧(⟨#[1]⟩:ByteArray)++N++T=P)∨(s.size≤T.size∧(⟨#[0]⟩:ByteArray)++N++s=P)):=by
 have hl:s.size=s.data.toList.length:=size_data s;have hz:=putL_size (n:=s.size) hs;have e1:sqL s.data.toList=(⟨(sqL s.data.toList).toArray⟩:ByteArray).data.toList:=by simp
 have e2:putL s.size=(⟨(putL s.size).toArray⟩:ByteArray).data.toList:=by simp
 generalize (⟨(sqL s.data.toList).toArray⟩:ByteArray)=T at e1;generalize (⟨(putL s.size).toArray⟩:ByteArray)=N at e2;have hT:T.size=(sqL s.data.toList).length:=by rw [e1,size_data]
 have hN:N.size=(putL s.size).length:=by rw [e2,size_data]
 refine ⟨T,N,e1,e2,by rw [hN,hz];split <;> split <;> omega,?_⟩;unfold packL at hP;rw [←hl] at hP;by_cases hc:T.size<s.size
 · rw [if_pos (by rw [←hT];exact hc),e1,e2] at hP;exact .inl ⟨hc,bytes_ext (by simp [←hP])⟩
 · rw [if_neg (by rw [←hT];exact hc),e2] at hP;exact .inr ⟨by omega,bytes_ext (by simp [←hP])⟩
set_option maxRecDepth 100000 in
set_option maxHeartbeats 1200000 in
theorem pack_any (s P:ByteArray) (w:World) (hs:s.size≤20000) (hP:packL s.data.toList=P.data.toList) :
   Calls Tryz.prog 41 #[.string s] w fun e w'=>e=.returned (.string P)∧Below w.heap.size w w':=by
 obtain ⟨T,N,hT,hN,hN3,hc⟩:=pack_parts s P hs hP;have HT:=Lib.hid hT;have HN:=Lib.hid hN;have HTZ:Hid (T.size≤220000):=Lib.hid (by rw [size_data,←hT];exact sq_len _ (by rw [←size_data];exact hs));clear hT hN hP;rcases hc with ⟨hc,hp⟩ | ⟨hc,hp⟩
 · have HP:=Lib.hid hp;have hi:(T.size:Int)<(s.size:Int):=by omega
   obtain ⟨B,hB⟩:∃ B:ByteArray,B=⟨#[1]⟩:=⟨_,rfl⟩;rw [←hB] at HP;have HBB:=Lib.hid hB;clear hB hp hc;go_enter Tryz.func41,Tryz.ntmps41
   go_wp2_with fail
   refine (lzsq_to s T _ hs HT.out).mono ?_;rintro r w1 ⟨rfl,hb1⟩;have HB1:=Lib.hid hb1;clear hb1;go_wp2;have hu:IntKind.u64.wrap (s.size:Int)=(s.size:Int):=by rw [IntKind.wrap_u64];omega
   have HPT:=Lib.hid (fun w'=>put_to s.size N w' (by omega) HN.out);have ha1:¬ (9223372036854775807<B.size+N.size):=by rw [HBB.out];show ¬ (9223372036854775807<1+N.size);omega
   have ha2:¬ (9223372036854775807<(B++N).size+T.size):=by rw [ByteArray.size_append,HBB.out];show ¬ (9223372036854775807<1+N.size+T.size);have:=HTZ.out;omega
   have ha3:¬ (9223372036854775807<B.size+N.size+T.size):=by rw [←ByteArray.size_append];exact ha2
   have hcA:=byte_lit 1 1 B rfl HBB.out (by omega) (w1.alloc (.cells #[.int .u8 1] 5)) w1.heap.size (heap_alloc_new w1 _);have hcD:=byte_lit 1 1 B rfl HBB.out (by omega) (w1.alloc (.cells #[.int .u8 1] 5)).drew w1.heap.size (heap_alloc_new w1 _);have HBA:Hid (Below w1.heap.size w1 (w1.alloc (.cells #[.int .u8 1] 5))):=Lib.hid ((Below.refl _ _).alloc (Nat.le_refl _) _)
   go_region_with (first
     | (go_at_call 68;((with_reducible refine (HPT.out w1.drew).mono ?_);rintro r w2 ⟨rfl,hb2⟩;have HB2:Hid (Below w1.heap.size w1 w2):=Lib.hid (undrewP hb2);have hcB:=byte_lit 1 1 B rfl HBB.out (by omega) (w2.alloc (.cells #[.int .u8 1] 5)) w2.heap.size (heap_alloc_new w2 _);clear hb2))
     | (go_at_call 68;((with_reducible refine (HPT.out (w1.alloc (.cells #[.int .u8 1] 5)).drew).mono ?_);rintro r w2 ⟨rfl,hb2⟩;have HB2:Hid (Below w1.heap.size w1 w2):=Lib.hid (HBA.out.trans ((undrewP hb2).mono (by simp)));have hcB:=byte_lit 1 1 B rfl HBB.out (by omega) w2 w1.heap.size (((undrewP hb2).block _ (by simp)).trans (heap_alloc_new w1 _));clear hb2)))
   all_goals
     clear hcA hcB hcD;go_wp2;go_ret
     first
       | exact ⟨by rw [←HP.out];rfl,HB1.out.trans (HB2.out.mono HB1.out.size)⟩
       | exact ⟨by rw [←HP.out];rfl,HB1.out.trans ((HB2.out.alloc HB2.out.size _).mono HB1.out.size)⟩
 · have HP:=Lib.hid hp;have hi:(s.size:Int)≤(T.size:Int):=by omega
   obtain ⟨B,hB⟩:∃ B:ByteArray,B=⟨#[0]⟩:=⟨_,rfl⟩;rw [←hB] at HP;have HBB:=Lib.hid hB;clear hB hp hc;go_enter Tryz.func41,Tryz.ntmps41
   go_wp2_with fail
   refine (lzsq_to s T _ hs HT.out).mono ?_;rintro r w1 ⟨rfl,hb1⟩;have HB1:=Lib.hid hb1;clear hb1;go_wp2;have hu:IntKind.u64.wrap (s.size:Int)=(s.size:Int):=by rw [IntKind.wrap_u64];omega
   have HPT:=Lib.hid (fun w'=>put_to s.size N w' (by omega) HN.out);have ha1:¬ (9223372036854775807<B.size+N.size):=by rw [HBB.out];show ¬ (9223372036854775807<1+N.size);omega
   have ha2:¬ (9223372036854775807<(B++N).size+s.size):=by rw [ByteArray.size_append,HBB.out];show ¬ (9223372036854775807<1+N.size+s.size);omega
   have ha3:¬ (9223372036854775807<B.size+N.size+s.size):=by rw [←ByteArray.size_append];exact ha2
   have hcA:=byte_lit 0 0 B rfl HBB.out (by omega) (w1.alloc (.cells #[.int .u8 0] 5)) w1.heap.size (heap_alloc_new w1 _);have hcD:=byte_lit 0 0 B rfl HBB.out (by omega) (w1.alloc (.cells #[.int .u8 0] 5)).drew w1.heap.size (heap_alloc_new w1 _);have HBA:Hid (Below w1.heap.size w1 (w1.alloc (.cells #[.int .u8 0] 5))):=Lib.hid ((Below.refl _ _).alloc (Nat.le_refl _) _)
   go_region_with (first
     | (go_at_call 68;((with_reducible refine (HPT.out w1.drew).mono ?_);rintro r w2 ⟨rfl,hb2⟩;have HB2:Hid (Below w1.heap.size w1 w2):=Lib.hid (undrewP hb2);have hcB:=byte_lit 0 0 B rfl HBB.out (by omega) (w2.alloc (.cells #[.int .u8 0] 5)) w2.heap.size (heap_alloc_new w2 _);clear hb2))
     | (go_at_call 68;((with_reducible refine (HPT.out (w1.alloc (.cells #[.int .u8 0] 5)).drew).mono ?_);rintro r w2 ⟨rfl,hb2⟩;have HB2:Hid (Below w1.heap.size w1 w2):=Lib.hid (HBA.out.trans ((undrewP hb2).mono (by simp)));have hcB:=byte_lit 0 0 B rfl HBB.out (by omega) w2 w1.heap.size (((undrewP hb2).block _ (by simp)).trans (heap_alloc_new w1 _));clear hb2)))
   all_goals
     clear hcA hcB hcD;go_wp2;go_ret
     first
       | exact ⟨by rw [←HP.out];rfl,HB1.out.trans (HB2.out.mono HB1.out.size)⟩
       | exact ⟨by rw [←HP.out];rfl,HB1.out.trans ((HB2.out.alloc HB2.out.size _).mono HB1.out.size)⟩
end Go.Proofs.YtgfinhehgfbdgaaGreatDoor
namespace Go.Proofs.YtgfinhehgfbdgaaGreatDoor
open Go.RowKit
theorem int_to (s:ByteArray) (n k e:Nat) (w:World) (hs:s.size≤maxLen) (h:intL s.data.toList 20000=(n,k,e)) :
   Calls Tryz.prog 96 #[.string s,.int .i64 20000] w fun r w'=>r=.returned (.tuple #[.int .i64 (n:Int),.int .i64 (k:Int),errC e])∧w=w':=by
 have h1:=int_any s 20000 w hs (by omega) (by omega);rw [h] at h1;exact h1
theorem intL_fits {l:List UInt8} {n k:Nat} (h:intL l 20000=(n,k,0)):n≤20000∧k≤l.length:=by
 rcases getL_cases l with ⟨e,hg,he⟩ | ⟨m,j,hg,_,_,_,hj⟩
 · rw [intL_bad hg he] at h;injection h with _ h;injection h with _ h;exact absurd h he
 · by_cases hm:(20000:Int)<0∨(20000:Int)<m
   · rw [intL_range hg hm] at h;injection h with _ h;injection h with _ h;cases h
   · rw [intL_ok hg hm] at h;injection h with h1 h
     injection h with h2 _
     subst h1 h2;exact ⟨by omega,hj⟩
theorem swell_to (s T:ByteArray) (e:Nat) (pl:Int) (w:World) (hs:s.size≤400000) (hg:errT w) (hT:swellF s.data.toList=T.data.toList) (hr:(readF s.data.toList).1=(e,pl)) :
   Calls Tryz.prog 60 #[.string s] w fun r w'=>∃ err,r=.returned (.tuple #[.string T,err])∧atIs w' err (e,pl)∧Below w.heap.size w w':=by
 refine (lzswell_any s w hs hg).mono ?_;rintro r w' ⟨err,rfl,hat,hb⟩;rw [hT,bs_of,hr] at *;exact ⟨err,rfl,hat,hb⟩
def unpV (r:List UInt8×Nat):Value:=.tuple #[.string ⟨r.1.toArray⟩,errC r.2]
set_option maxRecDepth 100000 in
set_option maxHeartbeats 1200000 in
theorem unpack_any (i:ByteArray) (w:World) (h1:1≤i.size) (hs:i.size≤400000) (hg:errT w) :
   Calls Tryz.prog 49 #[.string i] w fun e w'=>e=.returned (unpV (unpF i.data.toList))∧Below w.heap.size w w':=by
 have HG:=Lib.hid hg;have hl:i.size=i.data.toList.length:=size_data i;have hz:0<i.size:=by omega
 obtain ⟨c, hc⟩ : ∃ c : UInt8, i[0]'hz = c := ⟨_, rfl⟩;have hcd:i.data.toList.getD 0 0=c:=by
   rw [List.getD_eq_getElem?_getD,List.getElem?_eq_getElem (by omega),Option.getD_some,←hc];rfl
 have hzi:1≤(i.size:Int):=by omega
 clear hg;by_cases hc2:1<c.toNat
 · rw [unp_form (by rw [hcd];exact hc2)];have e1:((c.toNat:Int) != 0)=true:=by simp;omega
   have e2:((c.toNat:Int) != 1)=true:=by simp;omega
   clear hl hcd hc2;go_enter Tryz.func49,Tryz.ntmps49
   go_wp2;go_ret2;exact ⟨rfl,Below.refl _ _⟩
 · obtain ⟨n,k,e,hi⟩:∃ n k e,intL (i.data.toList.drop 1) 20000=(n,k,e):=⟨_,_,_,rfl⟩;have hid:(i.extract 1 i.size).data.toList=i.data.toList.drop 1:=by rw [ext_list];exact List.take_of_length_le (by simp)
   have HI:Hid (intL (i.extract 1 i.size).data.toList 20000=(n,k,e)):=Lib.hid (by rw [hid];exact hi);have HIZ:Hid ((i.extract 1 i.size).size≤maxLen):=Lib.hid (by unfold maxLen;simp;omega);by_cases he:e=0
   · subst he;obtain ⟨hn,hk⟩:=intL_fits hi;rw [List.length_drop,←hl] at hk;obtain ⟨R,hR⟩:∃ R:ByteArray,i.extract (1+k) i.size=R:=⟨_,rfl⟩;have hRd:(i.data.toList.drop 1).drop k=R.data.toList:=by
       rw [←hR,ext_list,List.drop_drop];exact (List.take_of_length_le (by simp)).symm
     have hRz:R.size≤400000:=by rw [←hR];simp;omega
     have hkz:1+k≤i.size:=by omega
     have hk1:IntKind.i64.wrap (1+(k:Int))=1+(k:Int):=IntWalk.i64_in _ (by omega);have hk2:(0:Int)≤1+(k:Int):=by omega
     have hk3:1+(k:Int)≤(i.size:Int):=by omega
     have hk4:(1+(k:Int)).toNat=1+k:=by omega
     rcases (show c.toNat=0∨c.toNat=1 by omega) with h0 | h0
     · obtain rfl:c=0:=UInt8.toNat_inj.1 h0;by_cases hn2:R.size=n
       · have HQ : Hid (unpV (unpF i.data.toList) = .tuple #[.string R, .nilIface]) := Lib.hid (by
           rw [unp_ok0 (by rw [hcd];rfl) hi (by rw [hRd,←size_data];exact hn2),hRd];unfold unpV;rw [bs_of];rfl)
         rw [HQ.out];have hni:((R.size:Int) == (n:Int))=true:=by simp;omega
         clear hl hcd hid hi hRd;go_enter Tryz.func49,Tryz.ntmps49
         go_wp2_with fail
         refine (int_to (i.extract 1 i.size) n k 0 _ HIZ.out HI.out).mono ?_;rintro r w1 ⟨rfl,rfl⟩;rw [errC_zero];go_wp2;go_ret2;exact ⟨rfl,Below.refl _ _⟩
       · have HQ : Hid (unpV (unpF i.data.toList) = .tuple #[.string ⟨#[]⟩, .iface 27 (.int .i64 2)]) := Lib.hid (by
           rw [unp_range0 (by rw [hcd];rfl) hi (by rw [hRd,←size_data];exact hn2)];rfl)
         rw [HQ.out];have hni:((R.size:Int) == (n:Int))=false:=by simp;omega
         clear hl hcd hid hi hRd;go_enter Tryz.func49,Tryz.ntmps49
         go_wp2_with fail
         refine (int_to (i.extract 1 i.size) n k 0 _ HIZ.out HI.out).mono ?_;rintro r w1 ⟨rfl,rfl⟩;rw [errC_zero];go_wp2;go_ret2;exact ⟨rfl,Below.refl _ _⟩
     · obtain rfl:c=1:=UInt8.toNat_inj.1 h0;obtain ⟨x,pl,hx⟩:∃ x pl,(readF R.data.toList).1=(x,pl):=⟨_,_,rfl⟩;obtain ⟨T,hT⟩:∃ T:ByteArray,swellF R.data.toList=T.data.toList:=⟨⟨(swellF R.data.toList).toArray⟩,by simp⟩;have HSW:=Lib.hid (fun w' hg=>swell_to R T x pl w' hRz hg hT hx);by_cases hx0:x=0
       · subst hx0;by_cases hn2:T.size=n
         · have HQ : Hid (unpV (unpF i.data.toList) = .tuple #[.string T, .nilIface]) := Lib.hid (by
             rw [unp_ok1 (by rw [hcd];rfl) hi (by rw [hRd,hx]) (by rw [hRd,hT,←size_data];exact hn2),hRd,hT];unfold unpV;rw [bs_of];rfl)
           rw [HQ.out];have hni:((T.size:Int) == (n:Int))=true:=by simp;omega
           clear hl hcd hid hi hRd hx hT;go_enter Tryz.func49,Tryz.ntmps49
           go_wp2_with fail
           refine (int_to (i.extract 1 i.size) n k 0 _ HIZ.out HI.out).mono ?_;rintro r w1 ⟨rfl,rfl⟩;rw [errC_zero];go_wp2_with fail
           refine (HSW.out w HG.out).mono ?_;rintro r w2 ⟨err,rfl,hat,hb2⟩;obtain rfl:=hat.nil rfl;have HB2:=Lib.hid hb2;clear hb2 hat;go_wp2;go_ret2;exact ⟨rfl,HB2.out⟩
         · have HQ : Hid (unpV (unpF i.data.toList) = .tuple #[.string ⟨#[]⟩, .iface 27 (.int .i64 2)]) := Lib.hid (by
             rw [unp_range1 (by rw [hcd];rfl) hi (by rw [hRd,hx]) (by rw [hRd,hT,←size_data];exact hn2)];rfl)
           rw [HQ.out];have hni:((T.size:Int) == (n:Int))=false:=by simp;omega
           clear hl hcd hid hi hRd hx hT;go_enter Tryz.func49,Tryz.ntmps49
           go_wp2_with fail
           refine (int_to (i.extract 1 i.size) n k 0 _ HIZ.out HI.out).mono ?_;rintro r w1 ⟨rfl,rfl⟩;rw [errC_zero];go_wp2_with fail
           refine (HSW.out w HG.out).mono ?_;rintro r w2 ⟨err,rfl,hat,hb2⟩;obtain rfl:=hat.nil rfl;have HB2:=Lib.hid hb2;clear hb2 hat;go_wp2;go_ret2;exact ⟨rfl,HB2.out⟩
       · have HQ : Hid (unpV (unpF i.data.toList) = .tuple #[.string ⟨#[]⟩, .iface 27 (.int .i64 x)]) := Lib.hid (by
           rw [unp_swell (by rw [hcd];rfl) hi (by rw [hRd,hx]) hx0];unfold unpV;rw [errC_ne hx0])
         rw [HQ.out];clear hl hcd hid hi hRd hx hT;go_enter Tryz.func49,Tryz.ntmps49
         go_wp2_with fail
         refine (int_to (i.extract 1 i.size) n k 0 _ HIZ.out HI.out).mono ?_;rintro r w1 ⟨rfl,rfl⟩;rw [errC_zero];go_wp2_with fail
         refine (HSW.out w HG.out).mono ?_;rintro r w2 ⟨err,rfl,hat,hb2⟩;have HIE:=Lib.hid (hat.isErr hx0);obtain ⟨t,u,rfl⟩:=hat.iface hx0;have HB2:=Lib.hid hb2;clear hb2 hat;go_wp2_with fail
         refine (tell_err _ (x:Int) w2 (HG.out.below HB2.out) HIE.out).mono ?_;rintro r w3 ⟨rfl,hb3⟩;have HB3:Hid (Below w.heap.size w w3):=HB2.out.trans (hb3.mono HB2.out.size);clear hb3;go_wp2;go_ret2;exact ⟨rfl,HB3.out⟩
   · have HQ : Hid (unpV (unpF i.data.toList) = .tuple #[.string ⟨#[]⟩, .iface 27 (.int .i64 e)]) := Lib.hid (by
       rw [unp_int (by rw [hcd];exact hc2) hi he];unfold unpV;rw [errC_ne he])
     rw [HQ.out];have hie:intL (i.extract 1 i.size).data.toList 20000=(n,k,e):=HI.out;rcases (show c.toNat=0∨c.toNat=1 by omega) with h0 | h0
     · obtain rfl:c=0:=UInt8.toNat_inj.1 h0;clear hl hcd hid hi hie;go_enter Tryz.func49,Tryz.ntmps49
       go_wp2_with fail
       refine (int_to (i.extract 1 i.size) n k e _ HIZ.out HI.out).mono ?_;rintro r w1 ⟨rfl,rfl⟩;rw [errC_ne he];go_wp2;go_ret2;exact ⟨rfl,Below.refl _ _⟩
     · obtain rfl:c=1:=UInt8.toNat_inj.1 h0;clear hl hcd hid hi hie;go_enter Tryz.func49,Tryz.ntmps49
       go_wp2_with fail
       refine (int_to (i.extract 1 i.size) n k e _ HIZ.out HI.out).mono ?_;rintro r w1 ⟨rfl,rfl⟩;rw [errC_ne he];go_wp2;go_ret2;exact ⟨rfl,Below.refl _ _⟩
end Go.Proofs.YtgfinhehgfbdgaaGreatDoor
