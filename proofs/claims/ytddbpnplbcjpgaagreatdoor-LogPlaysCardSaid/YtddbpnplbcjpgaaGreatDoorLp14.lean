import Derived.Test.YtddbpnplbcjpgaaGreatDoorLp05
namespace Go.Proofs.YtddbpnplbcjpgaaGreatDoor
open Go.RowKit
theorem itoa_k (k:Nat) (hk:k < 10) (w:World):Calls Tryz.prog 61 #[.int .i64 (k:Int)] w fun e w'=>e=.returned (.string ⟨(Lib.decDigits k).toArray⟩)∧w=w' :=
 (Tryz.strconv_Itoa_small k (by omega) w).mono fun e w' ⟨h1,h2⟩=>⟨h1,h2.symm⟩
theorem has23 (c:UInt8) (b:Bool) (w:World) (h:decide (0≤Lib.indexByte [50,51] c)=b):Calls Tryz.prog 60 #[.string ⟨#[50,51]⟩,.string ⟨#[c]⟩] w fun e w'=>e=.returned (.bool b)∧w=w' :=
 (Tryz.strings_Contains_one ⟨#[50,51]⟩ c w).mono fun e w' ⟨h1,h2⟩=>⟨by rw [h1];exact congrArg (fun x=>Ending.returned (.bool x)) h,h2.symm⟩
theorem itoa_1 (w:World):Calls Tryz.prog 61 #[.int .i64 1] w fun e w'=>e=.returned (.string ⟨#[49]⟩)∧w=w':=(itoa_k 1 (by decide) w).mono fun e w' ⟨h1,h2⟩=>⟨by rw [h1];exact congrArg (fun x=>Ending.returned (.string ⟨x⟩)) (show (Lib.decDigits 1).toArray=#[49] by decide +kernel),h2⟩
theorem itoa_2 (w:World):Calls Tryz.prog 61 #[.int .i64 2] w fun e w'=>e=.returned (.string ⟨#[50]⟩)∧w=w':=(itoa_k 2 (by decide) w).mono fun e w' ⟨h1,h2⟩=>⟨by rw [h1];exact congrArg (fun x=>Ending.returned (.string ⟨x⟩)) (show (Lib.decDigits 2).toArray=#[50] by decide +kernel),h2⟩
theorem itoa_3 (w:World):Calls Tryz.prog 61 #[.int .i64 3] w fun e w'=>e=.returned (.string ⟨#[51]⟩)∧w=w':=(itoa_k 3 (by decide) w).mono fun e w' ⟨h1,h2⟩=>⟨by rw [h1];exact congrArg (fun x=>Ending.returned (.string ⟨x⟩)) (show (Lib.decDigits 3).toArray=#[51] by decide +kernel),h2⟩
theorem itoa_4 (w:World):Calls Tryz.prog 61 #[.int .i64 4] w fun e w'=>e=.returned (.string ⟨#[52]⟩)∧w=w':=(itoa_k 4 (by decide) w).mono fun e w' ⟨h1,h2⟩=>⟨by rw [h1];exact congrArg (fun x=>Ending.returned (.string ⟨x⟩)) (show (Lib.decDigits 4).toArray=#[52] by decide +kernel),h2⟩
set_option maxRecDepth 100000 in
set_option maxHeartbeats 8000000 in
theorem rwright_any (T R K:Int) (key val:ByteArray) (N:Int) (w:World) (hk:key.size≤140737488351232) (hv:val.size≤140737488351232) :
   Calls Tryz.prog 24 #[.agg #[.int .i64 T,.int .i64 R,.int .i64 K,.string key,.string val,.int .i64 N]] w fun e w'=>e=.returned (.int .i64 (wriE T R K key val N:Nat))∧Below w.heap.size w w':=by
 have HN0:=Lib.hid (wrAt_new w T R K key val N 26)
 by_cases hK:K < 1∨4 < K
 · rw [wriE_kind hK]
   have hw:∀ w:World,Calls Tryz.prog 58 #[.int .i64 K,.int .i64 1,.int .i64 4] w fun e w'=>e=.returned (.bool false)∧w=w':=by
     intro w
     by_cases h1:K < 1
     · exact within_low K 1 4 w h1
     · exact within_high K 1 4 w (by omega) (by omega)
   go_enter Tryz.func24,Tryz.ntmps24
   go_wp2_with fail
   refine (hw _).mono ?_
   rintro r w' ⟨rfl,rfl⟩
   go_wp2
   go_ret
   exact ⟨rfl,(Below.refl _ _).alloc (Nat.le_refl _) _⟩
 · have h1:1≤K:=by omega
   have h2:K≤4:=by omega
   cases hid:idOk T R with
   | false =>
     rw [wriE_id hK hid]
     go_enter Tryz.func24,Tryz.ntmps24
     go_wp2_with fail
     refine (within_yes K 1 4 _ h1 h2).mono ?_
     rintro r w' ⟨rfl,rfl⟩
     go_wp2_with fail
     refine (ridrightW_as T R false _ hid).mono ?_
     rintro r w1 ⟨rfl,hb1⟩
     have HB1:=Lib.hid (((Below.refl _ _).alloc (Nat.le_refl _) _).trans (hb1.mono (by simp)))
     clear hb1
     go_wp2
     go_ret
     exact ⟨rfl,HB1.out⟩
   | true =>
     go_enter Tryz.func24,Tryz.ntmps24
     go_wp2_with fail
     refine (within_yes K 1 4 _ h1 h2).mono ?_
     rintro r w' ⟨rfl,rfl⟩
     go_wp2_with fail
     refine (ridrightW_as T R true _ hid).mono ?_
     rintro r w1 ⟨rfl,hb1⟩
     have HA1:=Lib.hid (HN0.out.below hb1 (by simp))
     have HB1:=Lib.hid (((Below.refl _ _).alloc (Nat.le_refl _) _).trans (hb1.mono (by simp)))
     have HID:=Lib.hid hid
     clear hb1 hid
     obtain ⟨c0,c1,c2,c3,c4,c5⟩:=HA1.out
     by_cases hs:40 < key.size∨300 < val.size
     · have HW:=Lib.hid (wriE_size (N:=N) hK HID.out hs)
       by_cases h3:40 < key.size
       · go_wp2
         go_ret
         rw [HW.out]
         exact ⟨rfl,HB1.out⟩
       · have h4:300 < val.size:=by omega
         go_wp2
         go_ret
         rw [HW.out]
         exact ⟨rfl,HB1.out⟩
     · have h3:¬ 40 < key.size:=by omega
       have h4:¬ 300 < val.size:=by omega
       have HW:=Lib.hid (wriE_rest (N:=N) hK HID.out hs)
       clear hs
       have hcase:K=1∨K=2∨K=3∨K=4:=by omega
       clear hK h1 h2
       rcases hcase with rfl | rfl | rfl | rfl
       · skip
         by_cases hve:0 < val.size
         · have b0:¬ val.toList=[]:=by have:=bne_empty hve;simpa using this
           by_cases hn:N=0
           · subst hn
             have HR:Hid (wriE T R 1 key val 0=0):=Lib.hid (by rw [HW.out];simp [hasV,hasN,fitsN,hve])
             go_wp2_with (first | (go_at_call 61;refine (itoa_1 _).mono ?_;rintro r w2 ⟨rfl,rfl⟩) | (go_at_call 60;refine (has23 49 false _ (by decide +kernel)).mono ?_;rintro r w3 ⟨rfl,rfl⟩))
             go_ret
             rw [HR.out]
             exact ⟨rfl,HB1.out⟩
           · skip
             have HR:Hid (wriE T R 1 key val N=3):=Lib.hid (by rw [HW.out];simp [hasV,hasN,hve,hn])
             go_wp2_with (first | (go_at_call 61;refine (itoa_1 _).mono ?_;rintro r w2 ⟨rfl,rfl⟩) | (go_at_call 60;refine (has23 49 false _ (by decide +kernel)).mono ?_;rintro r w3 ⟨rfl,rfl⟩))
             go_ret
             rw [HR.out]
             exact ⟨rfl,HB1.out⟩
         · obtain rfl:=empty_of hve
           have z0:(⟨#[]⟩:ByteArray).size=0:=rfl
           by_cases hn:N=0
           · subst hn
             have HR:Hid (wriE T R 1 key ⟨#[]⟩ 0=0):=Lib.hid (by rw [HW.out];simp [hasV,hasN,fitsN,z0])
             go_wp2
             go_ret
             rw [HR.out]
             exact ⟨rfl,HB1.out⟩
           · skip
             have HR:Hid (wriE T R 1 key ⟨#[]⟩ N=3):=Lib.hid (by rw [HW.out];simp [hasV,hasN,z0,hn])
             go_wp2
             go_ret
             rw [HR.out]
             exact ⟨rfl,HB1.out⟩
       · skip
         by_cases hve:0 < val.size
         · have b0:¬ val.toList=[]:=by have:=bne_empty hve;simpa using this
           have HR:Hid (wriE T R 2 key val N=3):=Lib.hid (by rw [HW.out];simp [hasV,hasN,hve])
           go_wp2_with (first | (go_at_call 61;refine (itoa_2 _).mono ?_;rintro r w2 ⟨rfl,rfl⟩) | (go_at_call 60;refine (has23 50 true _ (by decide +kernel)).mono ?_;rintro r w3 ⟨rfl,rfl⟩))
           go_ret
           rw [HR.out]
           exact ⟨rfl,HB1.out⟩
         · obtain rfl:=empty_of hve
           have z0:(⟨#[]⟩:ByteArray).size=0:=rfl
           by_cases hn:N=0
           · subst hn
             have HR:Hid (wriE T R 2 key ⟨#[]⟩ 0=0):=Lib.hid (by rw [HW.out];simp [hasV,hasN,fitsN,z0])
             go_wp2
             go_ret
             rw [HR.out]
             exact ⟨rfl,HB1.out⟩
           · skip
             have HR:Hid (wriE T R 2 key ⟨#[]⟩ N=3):=Lib.hid (by rw [HW.out];simp [hasV,hasN,z0,hn])
             go_wp2
             go_ret
             rw [HR.out]
             exact ⟨rfl,HB1.out⟩
       · skip
         by_cases hve:0 < val.size
         · have b0:¬ val.toList=[]:=by have:=bne_empty hve;simpa using this
           have HR:Hid (wriE T R 3 key val N=3):=Lib.hid (by rw [HW.out];simp [hasV,hasN,hve])
           go_wp2_with (first | (go_at_call 61;refine (itoa_3 _).mono ?_;rintro r w2 ⟨rfl,rfl⟩) | (go_at_call 60;refine (has23 51 true _ (by decide +kernel)).mono ?_;rintro r w3 ⟨rfl,rfl⟩))
           go_ret
           rw [HR.out]
           exact ⟨rfl,HB1.out⟩
         · obtain rfl:=empty_of hve
           have z0:(⟨#[]⟩:ByteArray).size=0:=rfl
           by_cases hn:N=0
           · subst hn
             have HR:Hid (wriE T R 3 key ⟨#[]⟩ 0=0):=Lib.hid (by rw [HW.out];simp [hasV,hasN,fitsN,z0])
             go_wp2_with (first | (go_at_call 58;refine (within_yes 0 (-1125899906842624) 1125899906842624 _ (by decide) (by decide)).mono ?_;rintro r w4 ⟨rfl,rfl⟩))
             go_ret
             rw [HR.out]
             exact ⟨rfl,HB1.out⟩
           · skip
             by_cases n0:(-1125899906842624)≤N
             · by_cases n1:N≤1125899906842624
               · skip
                 have HR:Hid (wriE T R 3 key ⟨#[]⟩ N=0):=Lib.hid (by rw [HW.out];simp [hasV,hasN,fitsN,z0,n0,n1])
                 go_wp2_with (first | (go_at_call 58;refine (within_yes N (-1125899906842624) 1125899906842624 _ n0 n1).mono ?_;rintro r w4 ⟨rfl,rfl⟩))
                 go_ret
                 rw [HR.out]
                 exact ⟨rfl,HB1.out⟩
               · skip
                 have HR:Hid (wriE T R 3 key ⟨#[]⟩ N=2):=Lib.hid (by rw [HW.out];simp [hasV,hasN,fitsN,z0,n1])
                 go_wp2_with (first | (go_at_call 58;refine (within_high N (-1125899906842624) 1125899906842624 _ n0 (by omega)).mono ?_;rintro r w4 ⟨rfl,rfl⟩))
                 go_ret
                 rw [HR.out]
                 exact ⟨rfl,HB1.out⟩
             · skip
               have HR:Hid (wriE T R 3 key ⟨#[]⟩ N=2):=Lib.hid (by rw [HW.out];simp [hasV,hasN,fitsN,z0,n0])
               go_wp2_with (first | (go_at_call 58;refine (within_low N (-1125899906842624) 1125899906842624 _ (by omega)).mono ?_;rintro r w4 ⟨rfl,rfl⟩))
               go_ret
               rw [HR.out]
               exact ⟨rfl,HB1.out⟩
       · skip
         by_cases hve:0 < val.size
         · have b0:¬ val.toList=[]:=by have:=bne_empty hve;simpa using this
           by_cases hn:N=0
           · subst hn
             have HR:Hid (wriE T R 4 key val 0=0):=Lib.hid (by rw [HW.out];simp [hasV,hasN,fitsN,hve])
             go_wp2_with (first | (go_at_call 61;refine (itoa_4 _).mono ?_;rintro r w2 ⟨rfl,rfl⟩) | (go_at_call 60;refine (has23 52 false _ (by decide +kernel)).mono ?_;rintro r w3 ⟨rfl,rfl⟩) | (go_at_call 58;refine (within_yes 0 0 1000 _ (by decide) (by decide)).mono ?_;rintro r w4 ⟨rfl,rfl⟩))
             go_ret
             rw [HR.out]
             exact ⟨rfl,HB1.out⟩
           · skip
             by_cases n0:0≤N
             · by_cases n1:N≤1000
               · skip
                 have HR:Hid (wriE T R 4 key val N=0):=Lib.hid (by rw [HW.out];simp [hasV,hasN,fitsN,hve,n0,n1])
                 go_wp2_with (first | (go_at_call 61;refine (itoa_4 _).mono ?_;rintro r w2 ⟨rfl,rfl⟩) | (go_at_call 60;refine (has23 52 false _ (by decide +kernel)).mono ?_;rintro r w3 ⟨rfl,rfl⟩) | (go_at_call 58;refine (within_yes N 0 1000 _ n0 n1).mono ?_;rintro r w4 ⟨rfl,rfl⟩))
                 go_ret
                 rw [HR.out]
                 exact ⟨rfl,HB1.out⟩
               · skip
                 have HR:Hid (wriE T R 4 key val N=2):=Lib.hid (by rw [HW.out];simp [hasV,hasN,fitsN,hve,n1])
                 go_wp2_with (first | (go_at_call 61;refine (itoa_4 _).mono ?_;rintro r w2 ⟨rfl,rfl⟩) | (go_at_call 60;refine (has23 52 false _ (by decide +kernel)).mono ?_;rintro r w3 ⟨rfl,rfl⟩) | (go_at_call 58;refine (within_high N 0 1000 _ n0 (by omega)).mono ?_;rintro r w4 ⟨rfl,rfl⟩))
                 go_ret
                 rw [HR.out]
                 exact ⟨rfl,HB1.out⟩
             · skip
               have HR:Hid (wriE T R 4 key val N=2):=Lib.hid (by rw [HW.out];simp [hasV,hasN,fitsN,hve,n0])
               go_wp2_with (first | (go_at_call 61;refine (itoa_4 _).mono ?_;rintro r w2 ⟨rfl,rfl⟩) | (go_at_call 60;refine (has23 52 false _ (by decide +kernel)).mono ?_;rintro r w3 ⟨rfl,rfl⟩) | (go_at_call 58;refine (within_low N 0 1000 _ (by omega)).mono ?_;rintro r w4 ⟨rfl,rfl⟩))
               go_ret
               rw [HR.out]
               exact ⟨rfl,HB1.out⟩
         · obtain rfl:=empty_of hve
           have z0:(⟨#[]⟩:ByteArray).size=0:=rfl
           by_cases hn:N=0
           · subst hn
             have HR:Hid (wriE T R 4 key ⟨#[]⟩ 0=0):=Lib.hid (by rw [HW.out];simp [hasV,hasN,fitsN,z0])
             go_wp2_with (first | (go_at_call 58;refine (within_yes 0 0 1000 _ (by decide) (by decide)).mono ?_;rintro r w4 ⟨rfl,rfl⟩))
             go_ret
             rw [HR.out]
             exact ⟨rfl,HB1.out⟩
           · skip
             by_cases n0:0≤N
             · by_cases n1:N≤1000
               · skip
                 have HR:Hid (wriE T R 4 key ⟨#[]⟩ N=0):=Lib.hid (by rw [HW.out];simp [hasV,hasN,fitsN,z0,n0,n1])
                 go_wp2_with (first | (go_at_call 58;refine (within_yes N 0 1000 _ n0 n1).mono ?_;rintro r w4 ⟨rfl,rfl⟩))
                 go_ret
                 rw [HR.out]
                 exact ⟨rfl,HB1.out⟩
               · skip
                 have HR:Hid (wriE T R 4 key ⟨#[]⟩ N=2):=Lib.hid (by rw [HW.out];simp [hasV,hasN,fitsN,z0,n1])
                 go_wp2_with (first | (go_at_call 58;refine (within_high N 0 1000 _ n0 (by omega)).mono ?_;rintro r w4 ⟨rfl,rfl⟩))
                 go_ret
                 rw [HR.out]
                 exact ⟨rfl,HB1.out⟩
             · skip
               have HR:Hid (wriE T R 4 key ⟨#[]⟩ N=2):=Lib.hid (by rw [HW.out];simp [hasV,hasN,fitsN,z0,n0])
               go_wp2_with (first | (go_at_call 58;refine (within_low N 0 1000 _ (by omega)).mono ?_;rintro r w4 ⟨rfl,rfl⟩))
               go_ret
               rw [HR.out]
               exact ⟨rfl,HB1.out⟩
end Go.Proofs.YtddbpnplbcjpgaaGreatDoor
