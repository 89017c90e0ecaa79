package verify_test

import (
	"math/rand"
	"testing"

	"governor/api"
	"governor/bound"
	"governor/flow"
	"governor/vm"
)

// settle writes what an image tells of its own heights, as they are now.
func settle(im *api.Image) {
	for i := range im.Codes {
		im.Codes[i].Stack, _ = flow.Check(*im, i)
	}
	im.D, im.W, _ = bound.Of(*im)
}

func run(t *testing.T, im api.Image, random *rand.Rand) {
	t.Helper()
	v, err := vm.New(im)
	if err != nil {
		t.Fatal(err)
	}
	for c := range im.Codes {
		for range 2 {
			if !v.Begin(c, []int{random.Intn(5), random.Intn(5)}, random.Intn(50), random.Intn(200)) {
				continue
			}
			for steps := range api.MaxFuel + 2 {
				if v.Frames() > im.D || v.Words() > im.W {
					t.Fatalf("T4: %d frames of %d, %d words of %d: %v", v.Frames(), im.D, v.Words(), im.W, im)
				}
				over, fault := v.Step()
				if fault < api.Running || fault > api.Watchdog || steps > api.MaxFuel {
					t.Fatalf("T2: fault %d: %v", fault, im)
				}
				if over {
					break
				}
				if steps > 1000 {
					v.Run(c, nil, 0, 0)
					break
				}
			}
		}
	}
}
