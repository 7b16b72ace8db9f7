import Derived.Test.YtjkbmfpomgcblaaGreatDoorKp03
import Derived.Lib.AppendStr
namespace Go.Proofs.YtjkbmfpomgcblaaGreatDoor
open Go.RowKit
def hiB (m:Nat):UInt8:=UInt8.ofNat (m % 128 + 128)
theorem high_byte (m:Nat):bits .or .u8 ((m:Int) % 256) 128=((hiB m).toNat:Int):=by
 unfold hiB
 have e:(m:Int) % 256=((m % 256:Nat):Int):=by omega
 rw [e,show (128:Int)=((128:Nat):Int) from rfl,u8_or_nat _ _ (by omega) (by omega),toNat_ofNat_lt (by omega)]
 congr 1
 have h1:m % 256=2 ^ 7 * (m / 128 % 2) + m % 128:=by omega
 rw [h1,Nat.two_pow_add_eq_or_of_lt (by omega),Nat.or_assoc,Nat.or_comm (m % 128),←Nat.or_assoc]
 have h3:2 ^ 7 * (m / 128 % 2) ||| 128=2 ^ 7 * 1:=by
   have:m / 128 % 2=0∨m / 128 % 2=1:=by omega
   rcases this with h | h <;> rw [h] <;> decide
 rw [h3,←Nat.two_pow_add_eq_or_of_lt (by omega)]
 omega
theorem make10 (w:World):(Instr.makeSlice 60 (.int .i64 0) (.int .i64 10)).run Tryz.prog w=.ok (.slice (some ⟨w.heap.size,0,none⟩) 0 10) (w.alloc (.cells #[.int .u8 0,.int .u8 0,.int .u8 0,.int .u8 0,.int .u8 0,.int .u8 0,.int .u8 0,.int .u8 0,.int .u8 0,.int .u8 0] 5)):=by kernel_rfl
set_option maxRecDepth 100000 in
set_option maxHeartbeats 1000000 in
theorem put_any (n:Int) (w:World) (h0:0≤n) (h1:n≤18446744073709551615) :
   Calls Tryz.prog 89 #[.int .u64 n] w fun e w'=>e=.returned (.string ⟨(putL n.toNat).toArray⟩)∧Below w.heap.size w w':=by
 obtain ⟨N,rfl⟩:=Int.eq_ofNat_of_zero_le h0
 rw [Int.toNat_natCast]
 have hmk:=make10
 go_enter Tryz.func89,Tryz.ntmps89
 go_wp2
 go_loopw [0,3] (fun n b wr=>∃ (m:Nat) (pre:List UInt8),n=.int .u64 m∧m≤18446744073709551615∧pre ++ putL m=putL N∧ownsB wr w.heap.size b pre∧Below w.heap.size w wr) (fun n _ _=>(intOf n).toNat)
 case atStart=>exact ⟨N,[],rfl,by omega,rfl,World.ownsRow_made w _ 10 (Nat.le_refl _) (by unfold maxLen;omega) rfl,(Below.refl _ _).alloc (Nat.le_refl _) _⟩
 case round =>
   obtain ⟨m,pre,rfl,hm,hput,hown,hbel⟩:=hrel
   have HP:=Lib.hid hput
   clear hput hmk
   have hlen:pre.length + 1≤10:=by
     have h2:=putL_le10 (n:=N) (by omega)
     rw [←HP.out,List.length_append] at h2
     have:=putL_pos m
     omega
   by_cases hlt:m < 128
   · go_wp2_with (at_builtin;refine wpList_append_byte rfl _ _ rfl w.heap.size _ pre rfl (hown.alloc _) ⟨wr.heap.size,0,none⟩ 1 rfl (m:Int) (UInt8.ofNat m) ?c1 ?c2 ?c3 ?c4 ?_)
     case c1=>simp [Addr.add]
     case c2=>rw [toNat_ofNat_lt (by omega)]
     case c3=>omega
     case c4=>have:=hbel.size;simp;omega
     · intro v' w1 hown1 hg1 _
       have hcv:=run_string_ownsB hown1
       have hb1:Below w.heap.size w w1:=(hbel.alloc hbel.size _).grown hg1 (by have:=hbel.size;simp;omega) (fun k hk=>(World.ownsRow.lt hown k hk).1)
       clear hown1 hg1
       go_wp2
       go_ret
       refine ⟨?_,hb1⟩
       have e:pre ++ [UInt8.ofNat m]=putL N:=by rw [←putL_small hlt];exact HP.out
       rw [←e];rfl
   · go_wp2_with (at_builtin;refine wpList_append_byte rfl _ _ rfl w.heap.size _ pre rfl (hown.alloc _) ⟨wr.heap.size,0,none⟩ 1 rfl (bits .or .u8 ((m:Int) % 256) 128) (hiB m) ?d1 ?d2 ?d3 ?d4 ?_)
     case d1=>simp [Addr.add]
     case d2=>exact high_byte m
     case d3=>omega
     case d4=>have:=hbel.size;simp;omega
     · intro v' w1 hown1 hg1 _
       have hb1:Below w.heap.size w w1:=(hbel.alloc hbel.size _).grown hg1 (by have:=hbel.size;simp;omega) (fun k hk=>(World.ownsRow.lt hown k hk).1)
       clear hg1 hown
       go_wp2
       go_roundw
       case rel=>exact ⟨m / 128,pre ++ [hiB m],by go_num,by omega,by rw [List.append_assoc,List.singleton_append,hiB,←putL_big hlt];exact HP.out,hown1,hb1⟩
       case measure=>simp [intOf];omega
end Go.Proofs.YtjkbmfpomgcblaaGreatDoor
namespace Go.Proofs.YtjkbmfpomgcblaaGreatDoor
theorem repL_take (l:List UInt8) (a b n:Nat) (h1:1≤b) (ha:b≤a) (hn:a + n≤l.length) (h:∀ j,j < n→l.getD (a + j) 0=l.getD (a + j - b) 0) :
   ∀ m,m≤n→repL (l.take (a + (n - m))) b m=l.take (a + n):=by
 intro m
 induction m with
 | zero=>intro _;rw [Nat.sub_zero];rfl
 | succ m ih =>
   intro hm
   have hlt:a + (n - (m + 1)) < l.length:=by omega
   rw [repL]
   have e:l.take (a + (n - (m + 1))) ++ [(l.take (a + (n - (m + 1)))).getD ((l.take (a + (n - (m + 1)))).length - b) 0]=l.take (a + (n - m)):=by
     rw [show a + (n - m)=a + (n - (m + 1)) + 1 by omega,List.take_succ_eq_append_getElem hlt]
     congr 2
     rw [List.length_take,Nat.min_eq_left (by omega)]
     have h2:=h (n - (m + 1)) (by omega)
     have h3:l.getD (a + (n - (m + 1))) 0=l[a + (n - (m + 1))]:=by simp [hlt]
     rw [←h3,h2,List.getD_eq_getElem?_getD,List.getD_eq_getElem?_getD,List.getElem?_take_of_lt (by omega)]
   rw [e]
   exact ih (by omega)
theorem wrongN_own (s:List UInt8) (a:Nat) (hs:s≠[]) (h:a + s.length≤20000):wrongN ⟨⟨s.toArray⟩,0,0⟩ a=0:=by
 have hz:s.length≠0:=fun e=>hs (List.length_eq_zero_iff.1 e)
 unfold wrongN
 simp only [bs_size]
 rw [if_neg hz,if_neg (by simp),if_neg (by omega)]
theorem wrongN_rep (b n a:Nat) (h1:4≤n) (h2:n≤67) (h3:1≤b) (h4:b≤1024) (h5:b≤a) (h6:a + n≤20000):wrongN (repT b n) a=0:=by
 unfold wrongN repT
 simp only
 rw [if_pos (show (⟨#[]⟩:ByteArray).size=0 from rfl),if_neg (by omega),if_neg (by omega),if_neg (by omega),if_neg (by omega)]
theorem lenT_own (s:List UInt8):lenT ⟨⟨s.toArray⟩,0,0⟩=s.length:=by unfold lenT;simp only [bs_size];rfl
theorem lenT_rep (b n:Nat):lenT (repT b n)=n:=by unfold lenT repT;simp only [Int.toNat_natCast];show 0 + n=n;omega
theorem stepT_own (b s:List UInt8):stepT b ⟨⟨s.toArray⟩,0,0⟩=b ++ s:=rfl
theorem stepT_rep (c:List UInt8) (b n:Nat):stepT c (repT b n)=repL c b n:=by
 unfold stepT repT
 simp only [Int.toNat_natCast]
 rw [List.append_nil]
theorem own_step (l:List UInt8) (fr a i:Nat) (r:List Tok) (hf:fr≤a) (ha:a≤l.length) (hl:l.length≤20000) :
   ((rightF (ownT ((l.take a).drop fr) ++ r) i fr).1=0↔(rightF r (if (l.take a).drop fr=[] then i else i + 1) a).1=0) ∧
   textL (l.take fr) (ownT ((l.take a).drop fr) ++ r)=textL (l.take a) r:=by
 by_cases hz:(l.take a).drop fr=[]
 · have e : fr = a := by
     have:=congrArg List.length hz
     rw [List.length_drop,List.length_take] at this
     simp at this;omega
   subst e
   rw [hz,ownT_nil,if_pos rfl]
   exact ⟨Iff.rfl,rfl⟩
 · have hlen:((l.take a).drop fr).length=a - fr:=by rw [List.length_drop,List.length_take,Nat.min_eq_left ha]
   rw [ownT_cons hz,if_neg hz,List.singleton_append,rightF_ok (wrongN_own _ _ hz (by omega)),lenT_own,hlen,show fr + (a - fr)=a by omega,textL]
   refine ⟨Iff.rfl,?_⟩
   rw [List.foldl_cons,stepT_own]
   have e:l.take fr=(l.take a).take fr:=by rw [List.take_take,Nat.min_eq_left hf]
   rw [e,List.take_append_drop];rfl
theorem tks_text (l:List UInt8) (hl:l.length≤20000):∀ f fr a i,fr≤a→a≤l.length→l.length≤a + f →
   (rightF (tks l f fr a) i fr).1=0∧textL (l.take fr) (tks l f fr a)=l:=by
 intro f
 have hend:∀ fr a i,fr≤a→a=l.length→(rightF (ownT ((l.take a).drop fr)) i fr).1=0∧textL (l.take fr) (ownT ((l.take a).drop fr))=l:=by
   intro fr a i h1 h2
   have h:=own_step l fr a i [] h1 (by omega) hl
   rw [List.append_nil] at h
   refine ⟨h.1.2 rfl,h.2.trans ?_⟩
   show l.take a=l
   rw [h2,List.take_length]
 induction f with
 | zero=>intro fr a i h1 h2 h3;exact hend fr a i h1 (by omega)
 | succ f ih =>
   intro fr a i h1 h2 h3
   by_cases hlt:a < l.length
   · rcases find_cases l a with ⟨hz,_⟩ | ⟨b,n,hfn,_,hb1,hb2,hb3,hn1,hn2,hn3,hsm,_⟩
     · rw [tks_step hlt (by rw [hz])]
       exact ih fr (a + 1) i (by omega) (by omega) (by omega)
     · rw [tks_rep hlt hfn (by omega)]
       have h:=own_step l fr a i (repT b n :: tks l f (a + n) (a + n)) h1 h2 hl
       rw [h.1,h.2,rightF_ok (wrongN_rep b n a hn1 hn2 hb1 hb2 hb3 (by omega)),lenT_rep]
       obtain ⟨k1,k2⟩:=ih (a + n) (a + n) ((if (l.take a).drop fr=[] then i else i + 1) + 1) (Nat.le_refl _) hn3 (by omega)
       refine ⟨k1,?_⟩
       show textL (stepT (l.take a) (repT b n)) (tks l f (a + n) (a + n))=l
       rw [stepT_rep]
       have hr:=repL_take l a b n hb1 hb3 hn3 hsm.2.1 n (Nat.le_refl _)
       rw [Nat.sub_self,Nat.add_zero] at hr
       rw [hr]
       exact k2
   · rw [tks_end hlt]
     exact hend fr a i h1 (by omega)
theorem toks_text (l:List UInt8) (hl:l.length≤20000):rightF (toks l) 0 0=(0,-1)∧textL [] (toks l)=l:=by
 have h:=tks_text l hl l.length 0 0 0 (Nat.le_refl _) (Nat.zero_le _) (by omega)
 rw [List.take_zero] at h
 exact ⟨rightF_any h.1,h.2⟩
theorem tks_own (l:List UInt8):∀ f fr a,∀ t∈tks l f fr a,t.own.size≤l.length:=by
 intro f
 have ho:∀ fr a,∀ t∈ownT ((l.take a).drop fr),t.own.size≤l.length:=fun fr a t h=>by
   unfold ownT at h
   split at h
   · cases h
   · rw [List.mem_singleton.1 h]
     simp only [bs_size,List.length_drop,List.length_take];omega
 induction f with
 | zero=>intro fr a;exact ho _ _
 | succ f ih =>
   intro fr a t h
   rw [tks] at h
   split at h
   · split at h
     · exact ih _ _ t h
     · rcases List.mem_append.1 h with h | h
       · exact ho _ _ t h
       · rcases List.mem_cons.1 h with h | h
         · rw [h];exact Nat.zero_le _
         · exact ih _ _ t h
   · exact ho _ _ t h
theorem tks_len (l:List UInt8):∀ f fr a,(tks l f fr a).length≤2 * f + 1:=by
 intro f
 have ho:∀ x:List UInt8,(ownT x).length≤1:=fun x=>by unfold ownT;split <;> simp
 induction f with
 | zero=>intro fr a;exact ho _
 | succ f ih =>
   intro fr a
   rw [tks]
   split
   · split
     · have:=ih fr (a + 1);omega
     · have:=ih (a + (find l a).2) (a + (find l a).2)
       have h2:=ho ((l.take a).drop fr)
       rw [List.length_append,List.length_cons]
       omega
   · have:=ho ((l.take a).drop fr);omega
end Go.Proofs.YtjkbmfpomgcblaaGreatDoor
namespace Go.Proofs.YtjkbmfpomgcblaaGreatDoor
open Go.RowKit
theorem toLs (s:ByteArray):s.toList=s.data.toList:=ByteArray.toList_eq s
theorem empty_b {s:ByteArray} (h:s.size=0):s.toList.isEmpty=true:=by
 rw [toLs]
 have hl:=size_data s
 cases hd:s.data.toList with
 | nil=>rfl
 | cons a r=>rw [hd,h] at hl;simp at hl
theorem full_b {s:ByteArray} (h:s.size≠0):s.toList.isEmpty=false:=by
 rw [toLs]
 have hl:=size_data s
 cases hd:s.data.toList with
 | nil=>rw [hd] at hl;exact absurd hl h
 | cons a r=>rfl
def tokV (t:Tok):Value:=.agg #[.string t.own,.int .i64 t.back,.int .i64 t.size]
set_option maxRecDepth 100000 in
theorem beyond_no (s:ByteArray) (b n:Int) (w:World) (h1:4≤n) (h2:n≤67) (h3:1≤b) (h4:b≤1024) :
   Calls Tryz.prog 231 #[.agg #[.string s,.int .i64 b,.int .i64 n]] w fun e w'=>e=.returned (.bool false)∧Below w.heap.size w w':=by
 have d1:decide (n < 4)=false:=by simp;omega
 have d2:decide (67 < n)=false:=by simp;omega
 have d3:decide (b < 1)=false:=by simp;omega
 have d4:decide (1024 < b)=false:=by simp;omega
 go_enter Tryz.func231,Tryz.ntmps231
 go_wp2
 go_ret
 exact ⟨rfl,(Below.refl _ _).alloc (Nat.le_refl _) _⟩
set_option maxRecDepth 100000 in
theorem beyond_yes (s:ByteArray) (b n:Int) (w:World) (h:n < 4∨67 < n∨b < 1∨1024 < b) :
   Calls Tryz.prog 231 #[.agg #[.string s,.int .i64 b,.int .i64 n]] w fun e w'=>e=.returned (.bool true)∧Below w.heap.size w w':=by
 by_cases c1:n < 4
 · have d1:decide (n < 4)=true:=by simpa using c1
   clear h
   go_enter Tryz.func231,Tryz.ntmps231
   go_wp2
   go_ret
   exact ⟨rfl,(Below.refl _ _).alloc (Nat.le_refl _) _⟩
 · have d1:decide (n < 4)=false:=by simpa using c1
   by_cases c2:67 < n
   · have d2:decide (67 < n)=true:=by simpa using c2
     clear h
     go_enter Tryz.func231,Tryz.ntmps231
     go_wp2
     go_ret
     exact ⟨rfl,(Below.refl _ _).alloc (Nat.le_refl _) _⟩
   · have d2:decide (67 < n)=false:=by simpa using c2
     by_cases c3:b < 1
     · have d3:decide (b < 1)=true:=by simpa using c3
       clear h
       go_enter Tryz.func231,Tryz.ntmps231
       go_wp2
       go_ret
       exact ⟨rfl,(Below.refl _ _).alloc (Nat.le_refl _) _⟩
     · have d3:decide (b < 1)=false:=by simpa using c3
       have c4:1024 < b:=by omega
       have d4:decide (1024 < b)=true:=by simpa using c4
       clear h
       go_enter Tryz.func231,Tryz.ntmps231
       go_wp2
       go_ret
       exact ⟨rfl,(Below.refl _ _).alloc (Nat.le_refl _) _⟩
set_option maxRecDepth 100000 in
theorem length_any (s:ByteArray) (b n:Int) (w:World) (hs:s.size≤140737488351232) (h0:0≤n) (h1:n≤1000) :
   Calls Tryz.prog 223 #[.agg #[.string s,.int .i64 b,.int .i64 n]] w fun e w'=>e=.returned (.int .i64 (lenT ⟨s,b,n⟩:Nat))∧Below w.heap.size w w':=by
 have HE:Hid (((s.size:Int) + n)=(lenT ⟨s,b,n⟩:Nat)):=by
   have h:((s.size:Int) + n)=(lenT ⟨s,b,n⟩:Nat):=by show _=(((s.size + n.toNat:Nat)):Int);omega
   exact h
 go_enter Tryz.func223,Tryz.ntmps223
 go_wp2
 go_ret
 exact ⟨by rw [←HE.out];rfl,(Below.refl _ _).alloc (Nat.le_refl _) _⟩
set_option maxRecDepth 100000 in
set_option maxHeartbeats 1000000 in
theorem wrong_any (s:ByteArray) (b n:Int) (a:Nat) (w:World) (hs:s.size≤140737488351232) (ha:a≤20000) :
   Calls Tryz.prog 222 #[.agg #[.string s,.int .i64 b,.int .i64 n],.int .i64 a] w fun e w'=>e=.returned (.int .i64 (wrongN ⟨s,b,n⟩ a:Nat))∧Below w.heap.size w w':=by
 by_cases h0:s.size=0
 · have e1:=empty_b h0
   by_cases hz:n=0∧b=0
   · have HW : Hid (wrongN ⟨s, b, n⟩ a = 1) := by
       have h:wrongN ⟨s,b,n⟩ a=1:=by unfold wrongN;rw [if_pos h0,if_pos hz]
       exact h
     obtain ⟨rfl,rfl⟩:=hz
     clear h0 hs
     go_enter Tryz.func222,Tryz.ntmps222
     go_wp2
     go_ret
     exact ⟨by rw [HW.out];rfl,(Below.refl _ _).alloc (Nat.le_refl _) _⟩
   · by_cases hy:n < 4∨67 < n∨b < 1∨1024 < b
     · have HW : Hid (wrongN ⟨s, b, n⟩ a = 2) := by
         have h:wrongN ⟨s,b,n⟩ a=2:=by unfold wrongN;rw [if_pos h0,if_neg hz,if_pos hy]
         exact h
       have HY:=Lib.hid hy
       clear hy
       by_cases h1:n=0
       · subst h1
         have d1:(b != 0)=true:=by simp;omega
         clear h0 hs hz
         go_enter Tryz.func222,Tryz.ntmps222
         go_wp2_with fail
         refine (beyond_yes s b 0 _ HY.out).mono ?_
         rintro r w1 ⟨rfl,hb1⟩
         have HB:Hid (Below w.heap.size w w1):=((Below.refl _ _).alloc (Nat.le_refl _) _).trans (hb1.mono (by simp))
         clear hb1
         go_wp2
         go_ret
         exact ⟨by rw [HW.out];rfl,HB.out⟩
       · have d1:(n != 0)=true:=by simp;omega
         clear h0 hs hz h1
         go_enter Tryz.func222,Tryz.ntmps222
         go_wp2_with fail
         refine (beyond_yes s b n _ HY.out).mono ?_
         rintro r w1 ⟨rfl,hb1⟩
         have HB:Hid (Below w.heap.size w w1):=((Below.refl _ _).alloc (Nat.le_refl _) _).trans (hb1.mono (by simp))
         clear hb1
         go_wp2
         go_ret
         exact ⟨by rw [HW.out];rfl,HB.out⟩
     · have h4:4≤n:=by omega
       have h5:n≤67:=by omega
       have h6:1≤b:=by omega
       have h7:b≤1024:=by omega
       have d1:(n != 0)=true:=by simp;omega
       have HL:Hid ((lenT ⟨s,b,n⟩:Nat)=n.toNat):=by
         have h:lenT ⟨s,b,n⟩=n.toNat:=by show s.size + n.toNat=_;omega
         exact h
       obtain ⟨n,rfl⟩:=Int.eq_ofNat_of_zero_le (show 0≤n by omega)
       rw [Int.toNat_natCast] at HL
       by_cases h8:(a:Int) < b
       · have HW : Hid (wrongN ⟨s, b, n⟩ a = 7) := by
           have h:wrongN ⟨s,b,n⟩ a=7:=by unfold wrongN;rw [if_pos h0,if_neg hz,if_neg hy,if_pos h8]
           exact h
         clear h0 hz hy HL
         go_enter Tryz.func222,Tryz.ntmps222
         go_wp2_with fail
         refine (beyond_no s b _ _ h4 h5 h6 h7).mono ?_
         rintro r w1 ⟨rfl,hb1⟩
         have HB:Hid (Below w.heap.size w w1):=((Below.refl _ _).alloc (Nat.le_refl _) _).trans (hb1.mono (by simp))
         have c0:w1.cell? ⟨w.heap.size,0,none⟩=some (.string s):=(hb1.cell (by simp)).trans (by simp)
         have c1:w1.cell? ⟨w.heap.size,1,none⟩=some (.int .i64 b):=(hb1.cell (by simp)).trans (by simp)
         have c2:w1.cell? ⟨w.heap.size,2,none⟩=some (.int .i64 n):=(hb1.cell (by simp)).trans (by simp)
         clear hb1
         go_wp2
         go_ret
         exact ⟨by rw [HW.out];rfl,HB.out⟩
       · by_cases h9:20000 < (a:Int) + n
         · have HW : Hid (wrongN ⟨s, b, n⟩ a = 4) := by
             have h:wrongN ⟨s,b,n⟩ a=4:=by unfold wrongN;rw [if_pos h0,if_neg hz,if_neg hy,if_neg h8,if_pos h9]
             exact h
           clear h0 hz hy
           go_enter Tryz.func222,Tryz.ntmps222
           go_wp2_with fail
           refine (beyond_no s b _ _ h4 h5 h6 h7).mono ?_
           rintro r w1 ⟨rfl,hb1⟩
           have HB:Hid (Below w.heap.size w w1):=((Below.refl _ _).alloc (Nat.le_refl _) _).trans (hb1.mono (by simp))
           have c0:w1.cell? ⟨w.heap.size,0,none⟩=some (.string s):=(hb1.cell (by simp)).trans (by simp)
           have c1:w1.cell? ⟨w.heap.size,1,none⟩=some (.int .i64 b):=(hb1.cell (by simp)).trans (by simp)
           have c2:w1.cell? ⟨w.heap.size,2,none⟩=some (.int .i64 n):=(hb1.cell (by simp)).trans (by simp)
           clear hb1
           go_wp2_with fail
           refine (length_any s b _ _ hs (by omega) (by omega)).mono ?_
           rintro r w2 ⟨rfl,hb2⟩
           rw [HL.out]
           have HB2:Hid (Below w.heap.size w w2):=HB.out.trans (hb2.mono HB.out.size)
           clear hb2
           go_wp2
           go_ret
           exact ⟨by rw [HW.out];rfl,HB2.out⟩
         · have HW : Hid (wrongN ⟨s, b, n⟩ a = 0) := by
             have h:wrongN ⟨s,b,n⟩ a=0:=by unfold wrongN;rw [if_pos h0,if_neg hz,if_neg hy,if_neg h8,if_neg h9]
             exact h
           clear h0 hz hy
           go_enter Tryz.func222,Tryz.ntmps222
           go_wp2_with fail
           refine (beyond_no s b _ _ h4 h5 h6 h7).mono ?_
           rintro r w1 ⟨rfl,hb1⟩
           have HB:Hid (Below w.heap.size w w1):=((Below.refl _ _).alloc (Nat.le_refl _) _).trans (hb1.mono (by simp))
           have c0:w1.cell? ⟨w.heap.size,0,none⟩=some (.string s):=(hb1.cell (by simp)).trans (by simp)
           have c1:w1.cell? ⟨w.heap.size,1,none⟩=some (.int .i64 b):=(hb1.cell (by simp)).trans (by simp)
           have c2:w1.cell? ⟨w.heap.size,2,none⟩=some (.int .i64 n):=(hb1.cell (by simp)).trans (by simp)
           clear hb1
           go_wp2_with fail
           refine (length_any s b _ _ hs (by omega) (by omega)).mono ?_
           rintro r w2 ⟨rfl,hb2⟩
           rw [HL.out]
           have HB2:Hid (Below w.heap.size w w2):=HB.out.trans (hb2.mono HB.out.size)
           clear hb2
           go_wp2
           go_ret
           exact ⟨by rw [HW.out];rfl,HB2.out⟩
 · have e1:=full_b h0
   have e2:(!s.toList.isEmpty)=true:=by rw [e1];rfl
   by_cases hy:n≠0∨b≠0
   · have HW : Hid (wrongN ⟨s, b, n⟩ a = 1) := by
       have h:wrongN ⟨s,b,n⟩ a=1:=by unfold wrongN;rw [if_neg h0,if_pos hy]
       exact h
     by_cases h1:n=0
     · have d0:(n != 0)=false:=by simp;omega
       have d1:(b != 0)=true:=by simp;omega
       clear hy h0 hs h1
       go_enter Tryz.func222,Tryz.ntmps222
       go_wp2
       go_ret
       exact ⟨by rw [HW.out];rfl,(Below.refl _ _).alloc (Nat.le_refl _) _⟩
     · have d1:(n != 0)=true:=by simp;omega
       clear hy h0 hs h1
       go_enter Tryz.func222,Tryz.ntmps222
       go_wp2
       go_ret
       exact ⟨by rw [HW.out];rfl,(Below.refl _ _).alloc (Nat.le_refl _) _⟩
   · obtain ⟨rfl,rfl⟩:n=0∧b=0:=by omega
     have HL:Hid ((lenT ⟨s,0,0⟩:Nat)=s.size):=by
       have h:lenT ⟨s,0,0⟩=s.size:=by show s.size + (0:Int).toNat=_;simp
       exact h
     have h8:¬ (a:Int) < 0:=by omega
     by_cases h9:20000 < a + s.size
     · have HW : Hid (wrongN ⟨s, 0, 0⟩ a = 4) := by
         have h:wrongN ⟨s,0,0⟩ a=4:=by unfold wrongN;rw [if_neg h0,if_neg hy,if_pos h9]
         exact h
       have h10:20000 < (a:Int) + (s.size:Int):=by omega
       clear h0 hy h9
       go_enter Tryz.func222,Tryz.ntmps222
       go_wp2_with fail
       refine (length_any s 0 0 _ hs (by omega) (by omega)).mono ?_
       rintro r w2 ⟨rfl,hb2⟩
       rw [HL.out]
       have HB2:Hid (Below w.heap.size w w2):=((Below.refl _ _).alloc (Nat.le_refl _) _).trans (hb2.mono (by simp))
       clear hb2
       go_wp2
       go_ret
       exact ⟨by rw [HW.out];rfl,HB2.out⟩
     · have HW : Hid (wrongN ⟨s, 0, 0⟩ a = 0) := by
         have h:wrongN ⟨s,0,0⟩ a=0:=by unfold wrongN;rw [if_neg h0,if_neg hy,if_neg h9]
         exact h
       have h10:¬ 20000 < (a:Int) + (s.size:Int):=by omega
       clear h0 hy h9
       go_enter Tryz.func222,Tryz.ntmps222
       go_wp2_with fail
       refine (length_any s 0 0 _ hs (by omega) (by omega)).mono ?_
       rintro r w2 ⟨rfl,hb2⟩
       rw [HL.out]
       have HB2:Hid (Below w.heap.size w w2):=((Below.refl _ _).alloc (Nat.le_refl _) _).trans (hb2.mono (by simp))
       clear hb2
       go_wp2
       go_ret
       exact ⟨by rw [HW.out];rfl,HB2.out⟩
end Go.Proofs.YtjkbmfpomgcblaaGreatDoor
namespace Go.Proofs.YtjkbmfpomgcblaaGreatDoor
open Go.RowKit
theorem ownsB.drew {w:World} {base:Nat} {v:Value} {l:List UInt8} (h:ownsB w base v l):ownsB w.drew base v l:=h
theorem ownsB.lt {w:World} {base:Nat} {v:Value} {l:List UInt8} (h:ownsB w base v l):∀ k,v.ownBlock=some k→base≤k∧k < w.heap.size:=World.ownsRow.lt h
theorem ownsB.below {w w':World} {base:Nat} {v:Value} {l:List UInt8} (h:ownsB w base v l) (hb:Below w.heap.size w w'):ownsB w' base v l:=by
 refine World.ownsRow.kept h (row:=none) ⟨hb.os,hb.tape,hb.output,hb.size,fun k hk _=>hb.block k hk⟩ ?_
 cases hv:v.ownBlock with
 | none=>exact .inl rfl
 | some g=>exact .inr (by simp)
theorem ownsB.forms {w:World} {base:Nat} {v:Value} {l:List UInt8} (h:ownsB w base v l) :
   (v=.slice none 0 0∧l=[])∨∃ g cap,v=.slice (some ⟨g,0,none⟩) l.length cap∧base≤g∧g < w.heap.size∧∀ j,j < l.length→w.cell? ⟨g,j,none⟩=some (.int .u8 ((l.getD j 0).toNat:Int)):=by
 have hall:=h
 obtain ⟨h0,h1⟩:=h
 rcases h1 with ⟨rfl,hn⟩ | ⟨g,cap,cur,rfl,hb,hh,hc,hm,hs,ht⟩
 · exact .inl ⟨rfl,List.length_eq_zero_iff.1 hn⟩
 · refine .inr ⟨g,cap,rfl,hb,(World.ownsRow.lt hall g rfl).2,fun j hj=>?_⟩
   rw [World.ownsRow.cellAt hall j (by omega)]
   simp [List.getElem?_eq_getElem hj,byteV]
theorem ownsB.ne_tok {w:World} {base B:Nat} {v:Value} {l:List UInt8} {t:Tok} (h:ownsB w base v l) (hb:tokBlk w B t):v.ownBlock≠some B:=by
 rcases h.2 with ⟨rfl,_⟩ | ⟨g',cap,cur,rfl,_,hh,_⟩
 · simp [Value.ownBlock]
 · intro he
   have:g'=B:=by simpa [Value.ownBlock] using he
   subst this
   unfold tokBlk at hb
   rw [hh] at hb
   injection hb with hb
   injection hb with _ ht
   exact absurd ht (by decide)
theorem tokBlk.lt {w:World} {B:Nat} {t:Tok} (h:tokBlk w B t):B < w.heap.size:=by
 rcases Nat.lt_or_ge B w.heap.size with hlt | hge
 · exact hlt
 · unfold tokBlk at h;rw [Array.getElem?_eq_none hge] at h;cases h
theorem tokBlk.alloc {w:World} {B:Nat} {t:Tok} (h:tokBlk w B t) (o:Obj):tokBlk (w.alloc o) B t:=(Below.heap_alloc w o B h.lt).trans h
theorem tokBlk.grown {w w':World} {B:Nat} {t:Tok} {row:Option Nat} (h:tokBlk w B t) (hg:w.grownBy w' row) (hne:row≠some B):tokBlk w' B t:=(hg.block B h.lt (fun e=>hne e.symm)).trans h
theorem tokBlk.cells {w:World} {B:Nat} {t:Tok} (h:tokBlk w B t):w.cell? ⟨B,0,none⟩=some (.string t.own)∧w.cell? ⟨B,1,none⟩=some (.int .i64 t.back)∧w.cell? ⟨B,2,none⟩=some (.int .i64 t.size) :=
 ⟨cell_of_row w B 0 _ _ (0,0) h,cell_of_row w B 1 _ _ (0,0) h,cell_of_row w B 2 _ _ (0,0) h⟩
theorem wpList_append_text {w:World} {ops:Array Oper} {rest:List Oper} {o:Oper} {a:Act} {Q:Exit→Act→World→Prop} (hgd:o.guard=none) (s x:Operand)
   (ho:o.op=.call { callee:=.builtin .append,args:=#[s,x],argTypes:=#[60,9] })
   (base:Nat) (v:Value) (l:List UInt8) (hs:a.eval s=v) (hown:ownsB w base v l)
   (t:ByteArray) (hx:a.eval x=.string t) (hlen:l.length + t.size≤140737488355328) (hbase:base≤w.heap.size)
   (h:∀ v' w',ownsB w' base v' (l ++ t.data.toList)→w.grownBy w' v.ownBlock→wpList Tryz.prog ops Q rest (a.put o.dst v') w'):wpList Tryz.prog ops Q (o :: rest) a w:=by
 obtain ⟨i0,hi,hz0,hz1,hz2⟩:=info_parts info_u8
 refine Go.Lib.wpList_append_own_string w hgd s x 60 9 ho base 5 i0 Tryz.underlying60 Tryz.underlying9 hi hz0 hz1 hz2 v l.length (l.map byteV) hs hown t hx (by unfold maxLen;omega) hlen hbase ?_
 intro v' w' h1 h2 _
 refine h v' w' ?_ h2
 unfold ownsB
 rw [List.length_append,List.map_append,Array.length_toList]
 exact h1
end Go.Proofs.YtjkbmfpomgcblaaGreatDoor
namespace Go.Proofs.YtjkbmfpomgcblaaGreatDoor
def opnF (s:List UInt8):Nat×List UInt8×Nat :=
 if s.length < 8 then (0,[],7) else if s.take 2≠[80,84] then (0,[],5)
 else if (s.getD 2 0).toNat < 1∨3 < (s.getD 2 0).toNat then (0,[],8)
 else if (openL s).2≠0 then (0,[],(openL s).2)
 else ((s.getD 2 0).toNat,(openL s).1.drop 3,0)
theorem opn_few {s:List UInt8} (h:s.length < 8):opnF s=(0,[],7):=by unfold opnF;rw [if_pos h]
theorem opn_name {s:List UInt8} (h:¬ s.length < 8) (h1:s.take 2≠[80,84]):opnF s=(0,[],5):=by unfold opnF;rw [if_neg h,if_pos h1]
theorem opn_none {s:List UInt8} (h:¬ s.length < 8) (h1:s.take 2=[80,84]) (h2:(s.getD 2 0).toNat < 1∨3 < (s.getD 2 0).toNat):opnF s=(0,[],8):=by
 unfold opnF;rw [if_neg h,if_neg (by simpa using h1),if_pos h2]
theorem opn_spoilt {s:List UInt8} {e:Nat} (h:¬ s.length < 8) (h1:s.take 2=[80,84]) (h2:¬ ((s.getD 2 0).toNat < 1∨3 < (s.getD 2 0).toNat)) (h3:(openL s).2=e) (he:e≠0):opnF s=(0,[],e):=by
 unfold opnF;rw [if_neg h,if_neg (by simpa using h1),if_neg h2,if_pos (by rw [h3];exact he),h3]
theorem opn_ok {s:List UInt8} (h:¬ s.length < 8) (h1:s.take 2=[80,84]) (h2:¬ ((s.getD 2 0).toNat < 1∨3 < (s.getD 2 0).toNat)) (h3:(openL s).2=0):opnF s=((s.getD 2 0).toNat,(openL s).1.drop 3,0):=by
 unfold opnF;rw [if_neg h,if_neg (by simpa using h1),if_neg h2,if_neg (by rw [h3];simp)]
theorem sealL_len (l:List UInt8):(sealL l).length=l.length + 4:=by unfold sealL;rw [List.length_append,tail4_len]
theorem opn_seal (v:UInt8) (i:List UInt8) (hi:1≤i.length):opnF (sealL (80 :: 84 :: v :: i))=if v.toNat < 1∨3 < v.toNat then (0,[],8) else (v.toNat,i,0):=by
 have h0:¬ (sealL (80 :: 84 :: v :: i)).length < 8:=by rw [sealL_len];simp;omega
 have h1:(sealL (80 :: 84 :: v :: i)).take 2=[80,84]:=rfl
 have h2:(sealL (80 :: 84 :: v :: i)).getD 2 0=v:=rfl
 by_cases hv:v.toNat < 1∨3 < v.toNat
 · rw [if_pos hv,opn_none h0 h1 (by rw [h2];exact hv)]
 · rw [if_neg hv,opn_ok h0 h1 (by rw [h2];exact hv) (by rw [openL_seal]),h2,openL_seal];rfl
theorem openL_few {l o:List UInt8} (h:openL l=(o,0)):o.length=l.length - 4:=by
 unfold openL at h
 split at h
 · injection h with _ h;cases h
 · split at h
   · injection h with h _;rw [←h,List.length_take];omega
   · injection h with _ h;cases h
theorem opn_pos {s i:List UInt8} {v:Nat} (h:opnF s=(v,i,0)):1≤i.length∧i.length≤s.length:=by
 by_cases h0:s.length < 8
 · rw [opn_few h0] at h;injection h with _ h;injection h with _ h;cases h
 · by_cases h1:s.take 2=[80,84]
   · by_cases h2:(s.getD 2 0).toNat < 1∨3 < (s.getD 2 0).toNat
     · rw [opn_none h0 h1 h2] at h;injection h with _ h;injection h with _ h;cases h
     · by_cases h3:(openL s).2=0
       · rw [opn_ok h0 h1 h2 h3] at h
         injection h with _ h
         injection h with h _
         have h4:=openL_few (l:=s) (o:=(openL s).1) (by rw [←h3])
         rw [←h,List.length_drop,h4]
         omega
       · rw [opn_spoilt h0 h1 h2 rfl h3] at h;injection h with _ h;injection h with _ h;exact absurd h h3
   · rw [opn_name h0 h1] at h;injection h with _ h;injection h with _ h;cases h
end Go.Proofs.YtjkbmfpomgcblaaGreatDoor
namespace Go.Proofs.YtjkbmfpomgcblaaGreatDoor
open Go.RowKit
theorem ret_u32 {a b:Int} (h:a=b):Ending.returned (.int .u32 a)=.returned (.int .u32 b):=by rw [h]
theorem and_one (n:Nat) (h:n < 4294967296):bits .and .u32 (n:Int) 1=((n % 2:Nat):Int):=by
 rw [show (1:Int)=((1:Nat):Int) from rfl,u32_and_nat n 1 h (by decide),Nat.and_one_is_mod]
theorem and_one_yes {n:Nat} (h:n < 4294967296) (ht:(bits .and .u32 (n:Int) 1 == 1)=true):n % 2=1:=by
 rw [and_one n h] at ht;have:=eq_of_beq ht;omega
theorem and_one_no {n:Nat} (h:n < 4294967296) (ht:(bits .and .u32 (n:Int) 1 == 1)=false):n % 2≠1:=by
 intro e;rw [and_one n h,e] at ht;exact absurd ht (by decide)
theorem half_cast (n:Nat):(n:Int) / 2=((n / 2:Nat):Int):=by omega
theorem st_yes {n:Nat} (h:n < 4294967296) (ht:n % 2=1):bits .xor .u32 ((n:Int) / 2) 2197175160=(st n:Nat):=by
 rw [st_odd ht,half_cast,show (2197175160:Int)=((2197175160:Nat):Int) from rfl,u32_xor_nat _ _ (by omega) (by omega)]
theorem st_no {n:Nat} (ht:n % 2≠1):(n:Int) / 2=(st n:Nat):=by
 rw [st_even ht,half_cast]
end Go.Proofs.YtjkbmfpomgcblaaGreatDoor
namespace Go.Proofs.YtjkbmfpomgcblaaGreatDoor
open Go.RowKit
def findV (r:Nat×Nat):Value:=.tuple #[.int .i64 r.1,.int .i64 r.2]
set_option maxRecDepth 100000 in
set_option maxHeartbeats 1000000 in
theorem find_nat (s:ByteArray) (a:Nat) (w:World) (hs:s.size≤maxLen) (ha:a < s.size) :
   Calls Tryz.prog 193 #[.string s,.int .i64 a] w fun e w'=>e=.returned (findV (find s.data.toList a))∧∃ q,w'=w.drewN q:=by
 have HS:=Lib.hid hs
 unfold maxLen at hs
 obtain ⟨m,hm⟩:∃ m,m=min 67 (s.size - a):=⟨_,rfl⟩
 obtain ⟨t,ht⟩:∃ t,t=min 1024 a:=⟨_,rfl⟩
 have m1:(if (s.size:Int) - (a:Int) < 67 then (s.size:Int) - (a:Int) else 67)=(m:Int):=by split <;> omega
 have t1:(if (a:Int) < 1024 then (a:Int) else 1024)=(t:Int):=by split <;> omega
 have m2:min 67 ((s.size:Int) - (a:Int))=(m:Int):=by omega
 have t2:min 1024 (a:Int)=(t:Int):=by omega
 have HF:Hid (find s.data.toList a=best s.data.toList a m t):=by
   have hl:s.data.toList.length=s.size:=by simp
   have h:find s.data.toList a=best s.data.toList a m t:=by rw [find_in (by omega),hl,hm,ht]
   exact h
 have hm0:0 < m:=by omega
 have hma:a + m≤s.size:=by omega
 have hta:t≤a:=by omega
 have c1:decide ((a:Int) < 0)=false:=by simp
 have c2:decide (s.size≤a)=false:=by simp;omega
 clear hm ht
 go_enter Tryz.func193,Tryz.ntmps193
 go_wp2
 clear m1 t1 m2 t2 c1 c2
 go_loopw [4,5,24] (fun b n i wr=>∃ i' b' n' q:Nat,i'≤t∧i=.int .i64 i'∧b=.int .i64 b'∧n=.int .i64 n'∧n' < m∧bestC s.data.toList a m 1 i' b' n'∧wr=w.drewN q) (fun _ _ i _=>t - (intOf i).toNat)
 case atStart=>exact ⟨0,0,0,0,by omega,rfl,rfl,rfl,hm0,.inl ⟨rfl,rfl,fun k h1 h2=>by omega⟩,rfl⟩
 case round =>
   obtain ⟨i,b,n,q,hi,rfl,rfl,rfl,hn,hC,rfl⟩:=hrel
   have HC:=Lib.hid hC
   clear hC
   by_cases hlt:i < t
   · obtain ⟨x,hx⟩:∃ x,sm s.data.toList a (i + 1) m=x:=⟨_,rfl⟩
     have hxm:=sm_le s.data.toList a (i + 1) m
     rw [hx] at hxm
     by_cases hb:4≤x∧n < x
     · have hN:=bestC_far HC.out (by omega) (by omega) (by omega)
       rw [hx] at hN
       have HN:=Lib.hid hN
       have HX:=Lib.hid hx
       obtain ⟨b4,bn⟩:=hb
       clear hN hx
       by_cases hf:x=m
       · have hbe:((x:Int) == (m:Int))=true:=by simp [hf]
         have HE:Hid (find s.data.toList a=(i + 1,x)):=by
           have h:find s.data.toList a=(i + 1,x):=by rw [HF.out];exact best_eq (bestC_full HN.out hf hm0 (by omega))
           exact h
         clear hf
         go_wp2_with fail
         refine (same_at s a (i + 1) m _ _ HS.out (by omega) (by omega) hma).mono ?_
         rintro e w1 ⟨rfl,q1,rfl⟩
         rw [HX.out]
         go_wp2
         go_ret2
         exact ⟨by rw [HE.out];rfl,by first | exact ⟨_,rfl⟩ | exact drewq _ _ _⟩
       · have hbe:((x:Int) == (m:Int))=false:=by simp;omega
         go_wp2_with fail
         refine (same_at s a (i + 1) m _ _ HS.out (by omega) (by omega) hma).mono ?_
         rintro e w1 ⟨rfl,q1,rfl⟩
         rw [HX.out]
         go_wp2
         go_roundw
         case rel=>exact ⟨i + 1,i + 1,x,q + q1,by omega,by go_num,by go_num,rfl,by omega,HN.out,by simp⟩
         case measure=>simp [intOf];omega
     · have hN:=bestC_farnot HC.out (by rw [hx];exact hb)
       have HN:=Lib.hid hN
       have HX:=Lib.hid hx
       have hbe:((n:Int) == (m:Int))=false:=by simp;omega
       clear hN hx
       by_cases h4:4≤x
       · have h5:¬ n < x:=fun h=>hb ⟨h4,h⟩
         clear hb
         go_wp2_with fail
         refine (same_at s a (i + 1) m _ _ HS.out (by omega) (by omega) hma).mono ?_
         rintro e w1 ⟨rfl,q1,rfl⟩
         rw [HX.out]
         go_wp2
         go_roundw
         case rel=>exact ⟨i + 1,b,n,q + q1,by omega,by go_num,rfl,rfl,by omega,HN.out,by simp⟩
         case measure=>simp [intOf];omega
       · clear hb
         go_wp2_with fail
         refine (same_at s a (i + 1) m _ _ HS.out (by omega) (by omega) hma).mono ?_
         rintro e w1 ⟨rfl,q1,rfl⟩
         rw [HX.out]
         go_wp2
         go_roundw
         case rel=>exact ⟨i + 1,b,n,q + q1,by omega,by go_num,rfl,rfl,by omega,HN.out,by simp⟩
         case measure=>simp [intOf];omega
   · have HE : Hid (find s.data.toList a = (b, n)) := by
       have h:find s.data.toList a=(b,n):=by
         rw [HF.out]
         have e:i=t:=by omega
         rw [←e];exact best_eq HC.out
       exact h
     go_wp2
     go_ret2
     exact ⟨by rw [HE.out];rfl,_,rfl⟩
end Go.Proofs.YtjkbmfpomgcblaaGreatDoor
